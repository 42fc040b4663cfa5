package defect

import (
	"iter"
	"math"
	"math/big"
	"reflect"
	"slices"
	"testing"

	"porthole/api"
)

// The calls have the chapter's signatures.
var (
	_ func(api.Config, int) bool     = Holds
	_ func(api.Config) iter.Seq[int] = All
	_ func(api.Config) int           = First
	_ func(api.Config) bool          = Accepts
)

// The document's bounds, told anew, so that a wrong one in the package is found.
const (
	maxParts   = 6
	maxPrivate = 64
	maxChans   = 8
	maxWords   = 16
	maxPeriod  = 1048576
	maxFrame   = 64
	maxWindows = 16
	maxWord    = 4294967295
	defects    = 17
)

// The kinds of channels, told anew.
const (
	sampling = 1
	queuing  = 2
)

// far are numbers below and above all that may be, some with a lower half that may.
var far = []int{
	-1, -2, -255, -256, math.MinInt32, math.MinInt32 - 1, -1 << 32, -1<<32 + 1, math.MinInt, math.MinInt + 1, math.MinInt + 2,
	maxPeriod + 1, math.MaxInt32, math.MaxInt32 + 1, maxWord, 1 << 32, 1<<32 + 1, 1<<32 + 2, 1 << 33, 1 << 48, 1 << 62, math.MaxInt - 1, math.MaxInt,
}

// good is a configuration that is accepted: channels of both kinds, and in each frame windows with gaps and with none between them.
func good() api.Config {
	return api.Config{
		Parts: []api.Part{{Core: 0, Private: 2}, {Core: 1, Private: 0}, {Core: 0, Private: 64}, {Core: 1, Private: 7}},
		Chans: []api.Chan{
			{Kind: sampling, From: 0, To: 1, Words: 2, Period: 3},
			{Kind: queuing, From: 1, To: 0, Words: 1, Depth: 4, Boot: maxWord},
			{Kind: queuing, From: 0, To: 2, Words: 3, Depth: 1},
			{Kind: sampling, From: 3, To: 2, Words: 16},
		},
		Frames: [2]api.Frame{
			{Length: 20, Windows: []api.Window{{Part: 0, Start: 1, Len: 4}, {Part: 2, Start: 5, Len: 3}, {Part: 0, Start: 10, Len: 2}}},
			{Length: 12, Windows: []api.Window{{Part: 3, Start: 0, Len: 6}, {Part: 1, Start: 6, Len: 5}}},
		},
	}
}

// full is an accepted configuration with as much of all as there may be.
func full() api.Config {
	var c api.Config
	for p := range maxParts {
		c.Parts = append(c.Parts, api.Part{Core: p % 2, Private: maxPrivate})
	}
	for k := range maxChans {
		c.Chans = append(c.Chans, api.Chan{Kind: queuing, From: k % maxParts, To: (k + 1) % maxParts, Words: maxWords, Depth: 8, Boot: maxWord})
	}
	for core := range c.Frames {
		c.Frames[core].Length = maxFrame
		for i := range maxWindows {
			c.Frames[core].Windows = append(c.Frames[core].Windows, api.Window{Part: i*2%maxParts + core, Start: 4 * i, Len: 4})
		}
	}
	return c
}

// alone is a configuration of one partition of core 0, whose frame has these windows.
func alone(length int, windows ...api.Window) api.Config {
	return api.Config{Parts: []api.Part{{}}, Frames: [2]api.Frame{{Length: length, Windows: windows}, {Length: 1}}}
}

// with is the good configuration with a change.
func with(change func(c *api.Config)) api.Config {
	c := good()
	change(&c)
	return c
}

// has tells a fault unless a configuration has just these defects, by all four calls; want is rising.
func has(t *testing.T, c api.Config, want ...int) {
	t.Helper()
	for k := -2; k <= defects+3; k++ {
		if Holds(c, k) != slices.Contains(want, k) {
			t.Errorf("holds %d: %v instead of %v, of %v", k, Holds(c, k), want, c)
		}
	}
	if got := slices.Collect(All(c)); !slices.Equal(got, want) {
		t.Errorf("all: %v instead of %v, of %v", got, want, c)
	}
	first := 0
	if len(want) > 0 {
		first = want[0]
	}
	if got := First(c); got != first {
		t.Errorf("first: %d instead of %d, of %v", got, first, c)
	}
	if got := Accepts(c); got != (len(want) == 0) {
		t.Errorf("accepts: %v, but has %v: %v", got, want, c)
	}
}

// hasJust tells a fault unless a configuration has the defect k just if it must, and no other one.
func hasJust(t *testing.T, c api.Config, k int, must bool) {
	t.Helper()
	if must {
		has(t, c, k)
	} else {
		has(t, c)
	}
}

// between tells a fault unless a number of the good configuration must be least to greatest, or the defect k is there.
func between(t *testing.T, k, least, greatest int, set func(c *api.Config, n int)) {
	t.Helper()
	try := func(n int) {
		t.Helper()
		hasJust(t, with(func(c *api.Config) { set(c, n) }), k, n < least || n > greatest)
	}
	for _, n := range []int{least - 2, least - 1, least, least + 1, (least + greatest) / 2, greatest - 1, greatest, greatest + 1, greatest + 2, greatest + 256, 2*greatest + 2} {
		try(n)
	}
	for _, n := range far {
		try(n)
	}
}

// The chapter's example; and a configuration without anything whose lists are empty, but not nil.
func TestExample(t *testing.T) {
	has(t, api.Config{}, 1, 12)
	has(t, api.Config{Parts: []api.Part{}, Chans: []api.Chan{}, Frames: [2]api.Frame{{Windows: []api.Window{}}, {Windows: []api.Window{}}}}, 1, 12)
	has(t, api.Config{Frames: [2]api.Frame{{Length: 1}, {Length: 1}}}, 1)
}

// P7.1: configurations that have no defect: a middling one, the greatest one, and the least one of either core.
func TestNone(t *testing.T) {
	has(t, good())
	has(t, full())
	has(t, alone(1, api.Window{Len: 1}))
	has(t, api.Config{Parts: []api.Part{{Core: 1}}, Frames: [2]api.Frame{{Length: 1}, {Length: 1, Windows: []api.Window{{Len: 1}}}}})
}

// The document's examples of the whole: a depth of 3, and no windows on core 1.
func TestExamplesOfTheWhole(t *testing.T) {
	two := func() api.Config {
		return api.Config{
			Parts:  []api.Part{{Core: 0, Private: 2}, {Core: 1, Private: 1}},
			Chans:  []api.Chan{{Kind: queuing, From: 0, To: 1, Words: 1, Depth: 1}},
			Frames: [2]api.Frame{{Length: 1, Windows: []api.Window{{Part: 0, Len: 1}}}, {Length: 1, Windows: []api.Window{{Part: 1, Len: 1}}}},
		}
	}
	has(t, two())
	c := two()
	c.Chans[0].Depth = 3
	has(t, c, 9)
	c = two()
	c.Frames[1].Windows = nil
	has(t, c, 17)
}

// P7.1, Holds: no number but 1 to 17 is one of a defect, whatever the configuration has.
func TestHoldsOfNoDefect(t *testing.T) {
	for _, c := range []api.Config{{}, good(), full(), broken(1<<defects - 1)} {
		for _, k := range append([]int{0, -1, -17, defects + 1, defects + 2, 32, 33, 64, 256, 256 + 1, 1<<16 + 12, 1<<32 + 17}, far...) {
			if Holds(c, k) {
				t.Error(k, c)
			}
		}
	}
}

// P7.1, defect 1: partitions from none on, each with its window.
func TestParts(t *testing.T) {
	for n := range 20 {
		c := api.Config{Frames: [2]api.Frame{{Length: 20}, {Length: 20}}}
		for p := range n {
			core := p / 3 % 2
			c.Parts = append(c.Parts, api.Part{Core: core})
			c.Frames[core].Windows = append(c.Frames[core].Windows, api.Window{Part: p, Start: p, Len: 1})
		}
		hasJust(t, c, 1, n < 1 || n > maxParts)
	}
}

// P7.1, defect 1: far too many partitions.
func TestFarTooManyParts(t *testing.T) {
	for _, n := range []int{64, 256, 257, 1<<16 + 1} {
		c := good()
		c.Parts = append(c.Parts, make([]api.Part, n)...)
		has(t, c, 1, 17)
	}
}

// P7.1, defect 2: a Core that isn't 0 or 1, at each partition; what windows the partition had are of no core then, so defect 14 comes along, or 17 without them.
func TestCore(t *testing.T) {
	for p := range good().Parts {
		for _, n := range append([]int{2, 3, 64, 256, 257}, far...) {
			c := good()
			c.Parts[p].Core = n
			has(t, c, 2, 14)
			for core, f := range c.Frames {
				c.Frames[core].Windows = slices.DeleteFunc(f.Windows, func(w api.Window) bool { return w.Part == p })
			}
			has(t, c, 2, 17)
		}
	}
}

// P7.1, defect 3: the number of private words, at each partition.
func TestPrivate(t *testing.T) {
	for p := range good().Parts {
		between(t, 3, 0, maxPrivate, func(c *api.Config, n int) { c.Parts[p].Private = n })
	}
}

// P7.1, defect 4: channels from none on.
func TestChans(t *testing.T) {
	for _, n := range []int{0, 1, 7, 8, 9, 10, 16, 64, 65, 256, 257, 264, 1 << 16, 1<<16 + 8} {
		hasJust(t, with(func(c *api.Config) { c.Chans = slices.Repeat(c.Chans[:1], n) }), 4, n > maxChans)
		hasJust(t, with(func(c *api.Config) { c.Chans = slices.Repeat(c.Chans[1:2], n) }), 4, n > maxChans)
	}
}

// P7.1, defect 5: a Kind that there isn't, at each channel; of such a channel any Depth, Period and Boot may be.
func TestKind(t *testing.T) {
	for i := range good().Chans {
		for _, n := range append([]int{0, 3, 4, 257, 258}, far...) {
			has(t, with(func(c *api.Config) { c.Chans[i].Kind = n }), 5)
			for _, m := range append([]int{0, 1, 3, 8, 9}, far...) {
				has(t, with(func(c *api.Config) {
					k := &c.Chans[i]
					k.Kind, k.Depth, k.Period, k.Boot = n, m, m, uint32(m)
				}), 5)
			}
		}
	}
}

// P7.1, defect 5: of the one kind and of the other one at each channel, the numbers being as they must.
func TestBothKinds(t *testing.T) {
	for i := range good().Chans {
		has(t, with(func(c *api.Config) { k := &c.Chans[i]; k.Kind, k.Depth, k.Boot = sampling, 0, 0 }))
		has(t, with(func(c *api.Config) { k := &c.Chans[i]; k.Kind, k.Depth, k.Period = queuing, 2, 0 }))
	}
}

// P7.1, defects 6 and 7: each channel from and to each partition, and beside them.
func TestFromAndTo(t *testing.T) {
	parts := len(good().Parts)
	ends := append([]int{parts, parts + 1, maxParts, 64, 256, 257}, far...)
	for p := range parts {
		ends = append(ends, p)
	}
	stray := func(n int) bool { return n < 0 || n >= parts }
	for i := range good().Chans {
		for _, from := range ends {
			for _, to := range ends {
				var want []int
				if stray(from) || stray(to) {
					want = append(want, 6)
				}
				if from == to {
					want = append(want, 7)
				}
				has(t, with(func(c *api.Config) { c.Chans[i].From, c.Chans[i].To = from, to }), want...)
			}
		}
	}
}

// P7.1, defect 6: a partition's number is one of those that there are, be they too many, or none.
func TestFromAndToOfOtherParts(t *testing.T) {
	none := api.Config{Chans: good().Chans[:1], Frames: [2]api.Frame{{Length: 1}, {Length: 1}}}
	has(t, none, 1, 6)
	c := with(func(c *api.Config) {
		for p := len(c.Parts); p < maxParts+2; p++ {
			c.Parts = append(c.Parts, api.Part{Core: 0})
			c.Frames[0].Windows = append(c.Frames[0].Windows, api.Window{Part: p, Start: 8 + p, Len: 1})
		}
	})
	c.Chans[0].From, c.Chans[0].To = maxParts+1, maxParts
	has(t, c, 1)
	c.Chans[0].To++
	has(t, c, 1, 7)
	c.Chans[0].To++
	has(t, c, 1, 6)
}

// P7.1, defect 8: the number of words, at each channel, of either kind.
func TestWords(t *testing.T) {
	for i := range good().Chans {
		between(t, 8, 1, maxWords, func(c *api.Config, n int) { c.Chans[i].Words = n })
	}
}

// P7.1, defect 9: a Depth of 0 to 9 and beside it, of either kind, at each channel.
func TestDepth(t *testing.T) {
	for i, k := range good().Chans {
		for _, n := range append([]int{0, 1, 2, 3, 4, 5, 6, 7, 8, 9, 10, 12, 15, 16, 17, 32, 64, 256, 257}, far...) {
			may := n == 0
			if k.Kind == queuing {
				may = n == 1 || n == 2 || n == 4 || n == 8
			}
			hasJust(t, with(func(c *api.Config) { c.Chans[i].Depth = n }), 9, !may)
		}
	}
}

// P7.1, defect 10: a Period at its least and at its greatest and beside them, of either kind, at each channel.
func TestPeriod(t *testing.T) {
	for i, k := range good().Chans {
		greatest := 0
		if k.Kind == sampling {
			greatest = maxPeriod
		}
		between(t, 10, 0, greatest, func(c *api.Config, n int) { c.Chans[i].Period = n })
		for _, n := range []int{1, 2, maxPeriod / 2, maxPeriod - 1, maxPeriod, maxPeriod + 1, 2 * maxPeriod} {
			hasJust(t, with(func(c *api.Config) { c.Chans[i].Period = n }), 10, n > greatest)
		}
	}
}

// P7.1, defect 11: a Boot, of either kind, at each channel.
func TestBoot(t *testing.T) {
	for i, k := range good().Chans {
		for _, n := range []uint32{0, 1, 2, 255, 256, 1 << 16, 1<<31 - 1, 1 << 31, maxWord - 1, maxWord} {
			hasJust(t, with(func(c *api.Config) { c.Chans[i].Boot = n }), 11, k.Kind == sampling && n != 0)
		}
	}
}

// P7.1, defect 12: the Length of either frame, and of both.
func TestLength(t *testing.T) {
	// A window would lie outside of a frame that is too short, so the partitions' windows stand in the other frame, or at its beginning.
	for core := range 2 {
		for _, n := range append([]int{0, 1, 2, 63, 64, 65, 66, 128, 256, 257}, far...) {
			c := api.Config{Parts: []api.Part{{Core: 1 - core}}}
			c.Frames[1-core] = api.Frame{Length: 5, Windows: []api.Window{{Start: 1, Len: 4}}}
			c.Frames[core].Length = n
			hasJust(t, c, 12, n < 1 || n > maxFrame)
			c.Frames[core] = api.Frame{Length: 5, Windows: c.Frames[1-core].Windows}
			c.Frames[1-core] = api.Frame{Length: n}
			c.Parts[0].Core = core
			hasJust(t, c, 12, n < 1 || n > maxFrame)
		}
	}
	has(t, with(func(c *api.Config) { c.Frames[0].Length, c.Frames[1].Length = 65, 65 }), 12)
	has(t, with(func(c *api.Config) { c.Frames[0].Length, c.Frames[1].Length = 64, 64 }))
}

// P7.1, defects 12 and 15: the Length of a frame that has windows.
func TestLengthOfWindows(t *testing.T) {
	for n := -3; n <= 70; n++ {
		var want []int
		if n < 1 || n > maxFrame {
			want = append(want, 12)
		}
		if n < 12 {
			want = append(want, 15)
		}
		has(t, with(func(c *api.Config) { c.Frames[0].Length = n }), want...)
	}
}

// P7.1, defect 13: windows from one on, in either frame.
func TestWindows(t *testing.T) {
	for core := range 2 {
		for _, n := range []int{1, 2, 15, 16, 17, 18, 32, 64} {
			c := api.Config{Parts: []api.Part{{Core: core}}, Frames: [2]api.Frame{{Length: 64}, {Length: 64}}}
			for i := range n {
				c.Frames[core].Windows = append(c.Frames[core].Windows, api.Window{Start: i, Len: 1})
			}
			hasJust(t, c, 13, n > maxWindows)
		}
	}
	c := full()
	c.Frames[0].Windows[15].Len = 2
	c.Frames[0].Windows = append(c.Frames[0].Windows, api.Window{Start: 62, Len: 1})
	has(t, c, 13)
	c = full()
	c.Frames[1].Windows[15].Len = 3
	c.Frames[1].Windows = append(c.Frames[1].Windows, api.Window{Part: 1, Start: 63, Len: 1})
	has(t, c, 13)
	for _, n := range []int{256, 257, 1<<16 + 1} {
		c := good()
		c.Frames[1].Windows = append(c.Frames[1].Windows, slices.Repeat([]api.Window{{Part: 1, Start: 11, Len: 1}}, n)...)
		has(t, c, 13, 16)
	}
}

// P7.1, defect 14: a window more, of each partition and of none, in either frame.
func TestWindowOf(t *testing.T) {
	parts := good().Parts
	for core, start := range []int{19, 11} {
		for _, p := range append([]int{0, 1, 2, 3, 4, 5, 6, 7, 64, 256, 257}, far...) {
			may := p >= 0 && p < len(parts) && parts[p].Core == core
			hasJust(t, with(func(c *api.Config) {
				c.Frames[core].Windows = append(c.Frames[core].Windows, api.Window{Part: p, Start: start, Len: 1})
			}), 14, !may)
			hasJust(t, with(func(c *api.Config) {
				c.Frames[0].Windows[0].Start++
				c.Frames[0].Windows[0].Len--
				c.Frames[1].Windows[0].Start++
				c.Frames[1].Windows[0].Len--
				c.Frames[core].Windows = slices.Insert(c.Frames[core].Windows, 0, api.Window{Part: p, Start: 1 - core, Len: 1})
			}), 14, !may)
		}
	}
	has(t, with(func(c *api.Config) { c.Frames[0].Windows[1].Part = 3 }), 14, 17)
	has(t, with(func(c *api.Config) { c.Frames[0].Windows[2].Part = 3 }), 14)
	has(t, with(func(c *api.Config) { c.Frames[1].Windows[0].Part = -1 }), 14, 17)
}

// P7.1, defect 14: of windows of no partitions at all.
func TestWindowOfNoParts(t *testing.T) {
	for _, p := range append([]int{0, 1}, far...) {
		for core := range 2 {
			c := api.Config{Frames: [2]api.Frame{{Length: 9}, {Length: 9}}}
			c.Frames[core].Windows = []api.Window{{Part: p, Start: 3, Len: 2}}
			has(t, c, 1, 14)
		}
	}
}

// P7.1, defect 15: where a window starts, how long it is, and where it ends, in a small frame, worked out by counting.
func TestWindowWithin(t *testing.T) {
	for length := 1; length <= 5; length++ {
		for start := -2; start <= 7; start++ {
			for size := -2; size <= 8; size++ {
				hasJust(t, alone(length, api.Window{Start: start, Len: size}), 15, start < 0 || size < 1 || start+size > length)
			}
		}
	}
}

// P7.1, defect 15: at the bounds of the greatest frame, in the last window of either.
func TestWindowAtTheEnd(t *testing.T) {
	for core := range 2 {
		for _, x := range []struct {
			start, size int
			outside     bool
		}{{60, 4, false}, {60, 3, false}, {60, 5, true}, {61, 3, false}, {61, 4, true}, {63, 1, false}, {63, 2, true}, {64, 1, true}, {65, 1, true}, {64, 0, true}, {60, 0, true}, {60, -1, true}, {63, -63, true}} {
			c := full()
			w := &c.Frames[core].Windows[15]
			w.Start, w.Len = x.start, x.size
			hasJust(t, c, 15, x.outside)
		}
		c := full()
		c.Frames[core].Windows[0] = api.Window{Part: core, Start: -1, Len: 5}
		has(t, c, 15)
		c.Frames[core].Windows[0].Len = 1
		has(t, c, 15)
	}
}

// P7.1, defect 15: numbers whose sum goes beyond what an int holds, or whose difference does.
func TestWindowsOfGreatNumbers(t *testing.T) {
	for _, start := range append([]int{0, 1, 5}, far...) {
		for _, size := range append([]int{0, 1, 5}, far...) {
			for _, length := range append([]int{0, 1, 5, 64, 65}, far...) {
				var want []int
				if length < 1 || length > maxFrame {
					want = append(want, 12)
				}
				if start < 0 || size < 1 || sum(start, size).Cmp(big.NewInt(int64(length))) > 0 {
					want = append(want, 15)
				}
				has(t, alone(length, api.Window{Start: start, Len: size}), want...)
			}
		}
	}
}

// sum is two numbers together, whatever an int holds.
func sum(a, b int) *big.Int { return new(big.Int).Add(big.NewInt(int64(a)), big.NewInt(int64(b))) }

// P7.1, defect 16: a window that ends just where the next one starts, one tick sooner, and one tick later; the last one may end anywhere.
func TestWindowBehindWindow(t *testing.T) {
	for start := range 6 {
		for size := 1; size <= 5; size++ {
			for next := range 12 {
				for _, last := range []int{1, 4} {
					c := alone(20, api.Window{Start: start, Len: size}, api.Window{Start: next, Len: last})
					hasJust(t, c, 16, next < start+size)
				}
			}
		}
	}
}

// P7.1, defect 16: in either frame, at each place of the list, by a tick.
func TestWindowsMeet(t *testing.T) {
	for core := range 2 {
		for i := range maxWindows {
			c := full()
			c.Frames[core].Windows[i].Len++
			if i < maxWindows-1 {
				has(t, c, 16)
			} else {
				has(t, c, 15)
			}
			c = full()
			c.Frames[core].Windows[i].Start--
			if i > 0 {
				has(t, c, 16)
			} else {
				has(t, c, 15)
			}
		}
	}
}

// P7.1, defect 16: the one ahead in the list counts, not the one ahead in time, nor one further ahead; and no window of the other frame.
func TestWindowAheadInTheList(t *testing.T) {
	w := func(start, size int) api.Window { return api.Window{Start: start, Len: size} }
	has(t, alone(20, w(5, 2), w(1, 2)), 16)
	has(t, alone(20, w(1, 2), w(5, 2), w(3, 2)), 16)
	has(t, alone(20, w(3, 2), w(1, 2), w(5, 2)), 16)
	has(t, alone(20, w(3, 2), w(3, 2)), 16)
	has(t, alone(20, w(0, 20), w(-1, 1), w(5, 2)), 15)
	has(t, alone(20, w(0, 9), w(20, -5), w(9, 1)), 15)
	has(t, alone(20, w(0, 9), w(9, 0), w(9, 1)), 15)
	has(t, alone(20, w(0, 9), w(9, 0), w(8, 1)), 15, 16)
	c := api.Config{Parts: []api.Part{{Core: 0}, {Core: 1}}}
	c.Frames[0] = api.Frame{Length: 9, Windows: []api.Window{{Part: 0, Start: 5, Len: 4}}}
	c.Frames[1] = api.Frame{Length: 9, Windows: []api.Window{{Part: 1, Start: 0, Len: 9}}}
	has(t, c)
}

// P7.1, defect 16: windows whose three numbers are 0 to 2^32 - 1, and such that aren't, held against their sum without bounds; how long the later one is makes no difference.
func TestWindowsMeetByAnyNumbers(t *testing.T) {
	word := func(n int) bool { return n >= 0 && n <= maxWord }
	some := append([]int{0, 1, 2, 5, 6, math.MaxInt32 - 1, maxWord - 1, maxWord + 2}, far...)
	for _, start := range some {
		for _, size := range some {
			for _, next := range some {
				want := word(start) && word(size) && word(next) && sum(start, size).Cmp(big.NewInt(int64(next))) > 0
				for _, last := range []int{0, 1, -1, math.MaxInt, math.MinInt, maxWord} {
					c := alone(64, api.Window{Start: start, Len: size}, api.Window{Start: next, Len: last})
					if got := Holds(c, 16); got != want {
						t.Fatal(start, size, next, last, got)
					}
				}
			}
		}
	}
}

// P7.1, defect 16: the bound of a word, number by number.
func TestWindowsMeetAtTheBound(t *testing.T) {
	for _, x := range []struct {
		start, size, next int
		want              []int
	}{
		{maxWord, 1, maxWord, []int{15, 16}},
		{maxWord, 0, maxWord, []int{15}},
		{maxWord, maxWord, maxWord, []int{15, 16}},
		{0, maxWord, maxWord, []int{15}},
		{0, maxWord, maxWord - 1, []int{15, 16}},
		{1, maxWord, maxWord, []int{15, 16}},
		{maxWord, maxWord, 0, []int{15, 16}},
		{maxWord + 1, 1, 0, []int{15}},
		{0, maxWord + 1, 0, []int{15}},
		{0, maxWord + 1, maxWord, []int{15}},
		{maxWord, 2, maxWord + 1, []int{15}},
		{-1, 5, 0, []int{15}},
		{5, -1, 0, []int{15}},
		{5, -1, 4, []int{15}},
		{5, -6, 0, []int{15}},
		{0, 5, -1, []int{15}},
		{0, 5, 0, []int{16}},
		{5, 0, 5, []int{15}},
		{5, 0, 4, []int{15, 16}},
		{math.MaxInt, math.MaxInt, 0, []int{15}},
		{math.MinInt, math.MaxInt, math.MinInt, []int{15}},
	} {
		has(t, alone(64, api.Window{Start: x.start, Len: x.size}, api.Window{Start: x.next, Len: 1}), x.want...)
	}
}

// P7.1, defect 17: a partition whose Core is 0, 1 or none, with windows in neither, one or both frames; beside another one, or alone.
func TestPartWithoutWindows(t *testing.T) {
	for _, x := range []struct {
		core  int
		in    [2]bool
		wants []int
	}{
		{0, [2]bool{false, false}, []int{17}},
		{0, [2]bool{true, false}, nil},
		{0, [2]bool{false, true}, []int{14, 17}},
		{0, [2]bool{true, true}, []int{14}},
		{1, [2]bool{false, false}, []int{17}},
		{1, [2]bool{true, false}, []int{14, 17}},
		{1, [2]bool{false, true}, nil},
		{1, [2]bool{true, true}, []int{14}},
		{2, [2]bool{false, false}, []int{2, 17}},
		{2, [2]bool{true, false}, []int{2, 14}},
		{2, [2]bool{false, true}, []int{2, 14}},
		{2, [2]bool{true, true}, []int{2, 14}},
	} {
		cores := []int{x.core}
		if x.core == 2 {
			cores = append(cores, far...)
		}
		for _, core := range cores {
			for _, c := range []api.Config{{Frames: [2]api.Frame{{Length: 20}, {Length: 20}}}, good()} {
				p := len(c.Parts)
				c.Parts = append(c.Parts, api.Part{Core: core})
				for i, start := range []int{19, 11} {
					if x.in[i] {
						c.Frames[i].Windows = append(c.Frames[i].Windows, api.Window{Part: p, Start: start, Len: 1})
					}
				}
				has(t, c, x.wants...)
			}
		}
	}
}

// P7.1, defect 17: of each partition in turn all windows but one are taken away, then that one too.
func TestPartWithoutItsWindows(t *testing.T) {
	for p := range maxParts {
		core := p % 2
		for kept, w := range full().Frames[core].Windows {
			if w.Part != p {
				continue
			}
			c := full()
			c.Frames[core].Windows = nil
			for i, w := range full().Frames[core].Windows {
				if i == kept || w.Part != p {
					c.Frames[core].Windows = append(c.Frames[core].Windows, w)
				}
			}
			has(t, c)
			c.Frames[core].Windows = slices.DeleteFunc(c.Frames[core].Windows, func(w api.Window) bool { return w.Part == p })
			has(t, c, 17)
		}
	}
}

// P7.1, defect 17: a window is one, whatever its numbers are.
func TestAnyWindowIsOne(t *testing.T) {
	has(t, alone(1, api.Window{Start: -5, Len: -5}), 15)
	has(t, alone(1, api.Window{Start: math.MaxInt, Len: math.MaxInt}), 15)
	has(t, alone(1, api.Window{Start: 5, Len: 0}), 15)
	has(t, alone(1), 17)
}

// P7.1: what is wrong stands behind what may be, at each place of long lists: the first, those within, the last one.
func TestEachPlace(t *testing.T) {
	for p := range maxParts {
		c := full()
		c.Parts[p].Private = maxPrivate + 1
		has(t, c, 3)
		c = full()
		c.Parts[p].Core = 2
		has(t, c, 2, 14)
	}
	for i := range maxChans {
		for _, x := range []struct {
			defect int
			change func(k *api.Chan)
		}{
			{5, func(k *api.Chan) { k.Kind = 0 }},
			{6, func(k *api.Chan) { k.From = maxParts }},
			{6, func(k *api.Chan) { k.To = -1 }},
			{7, func(k *api.Chan) { k.To = k.From }},
			{8, func(k *api.Chan) { k.Words = 17 }},
			{9, func(k *api.Chan) { k.Depth = 16 }},
			{10, func(k *api.Chan) { k.Period = 1 }},
			{11, func(k *api.Chan) { k.Kind, k.Depth = sampling, 0 }},
		} {
			c := full()
			x.change(&c.Chans[i])
			has(t, c, x.defect)
		}
	}
	for core := range 2 {
		for i := range maxWindows {
			c := full()
			c.Frames[core].Windows[i].Part = maxParts
			has(t, c, 14)
			c = full()
			c.Frames[core].Windows[i].Len = 0
			has(t, c, 15)
		}
	}
}

// P7.1: what stands behind the greatest number of rows is looked at too.
func TestBehindTheGreatestNumbers(t *testing.T) {
	c := full()
	c.Parts = append(c.Parts, api.Part{Private: 65})
	c.Chans = append(c.Chans, api.Chan{Kind: sampling, From: 0, To: 1, Words: 1, Depth: 1, Boot: 1})
	c.Frames[0].Windows = append(c.Frames[0].Windows, api.Window{Part: 7, Start: 64, Len: 1})
	has(t, c, 1, 3, 4, 9, 11, 13, 14, 15, 17)
	c.Frames[0].Windows[16] = api.Window{Part: maxParts, Start: 63, Len: 1}
	has(t, c, 1, 3, 4, 9, 11, 13, 16)
}

// base is an accepted configuration with room for each breaker's doing.
func base() api.Config {
	return api.Config{
		Parts: []api.Part{{Core: 0}, {Core: 1}, {Core: 0}},
		Chans: []api.Chan{
			{Kind: sampling, From: 0, To: 1, Words: 2, Period: 3},
			{Kind: queuing, From: 1, To: 0, Words: 1, Depth: 4, Boot: 9},
			{Kind: queuing, From: 0, To: 2, Words: 3, Depth: 1},
		},
		Frames: [2]api.Frame{
			{Length: 64, Windows: []api.Window{{Part: 0, Start: 0, Len: 2}, {Part: 2, Start: 4, Len: 2}, {Part: 0, Start: 8, Len: 2}}},
			{Length: 64, Windows: []api.Window{{Part: 1, Start: 0, Len: 2}, {Part: 1, Start: 4, Len: 2}}},
		},
	}
}

// breakers bring along a defect each, in any mixture, if they are gone through in this order; the second one brings along 17 as well, since a partition without a core can't have a window of its own.
func breakers() []func(c *api.Config) {
	window := func(c *api.Config, core, part, start, size int) {
		c.Frames[core].Windows = append(c.Frames[core].Windows, api.Window{Part: part, Start: start, Len: size})
	}
	return []func(c *api.Config){
		func(c *api.Config) {
			for range 4 {
				window(c, 1, len(c.Parts), 10+len(c.Parts), 1)
				c.Parts = append(c.Parts, api.Part{Core: 1})
			}
		},
		func(c *api.Config) { c.Parts = append(c.Parts, api.Part{Core: 2}) },
		func(c *api.Config) { c.Parts[0].Private = 65 },
		func(c *api.Config) { c.Chans = append(c.Chans, slices.Repeat(c.Chans[:1], 6)...) },
		func(c *api.Config) { c.Chans = append(c.Chans, api.Chan{Kind: 3, From: 0, To: 1, Words: 1}) },
		func(c *api.Config) { c.Chans[0].To = 99 },
		func(c *api.Config) { c.Chans[1].To = c.Chans[1].From },
		func(c *api.Config) { c.Chans[2].Words = 17 },
		func(c *api.Config) { c.Chans[1].Depth = 3 },
		func(c *api.Config) { c.Chans[0].Period = -1 },
		func(c *api.Config) { c.Chans[0].Boot = 1 },
		func(c *api.Config) { c.Frames[1].Length = 65 },
		func(c *api.Config) {
			for i := range 14 {
				window(c, 0, 0, 20+i, 1)
			}
		},
		func(c *api.Config) { window(c, 0, 1, 40, 1) },
		func(c *api.Config) { window(c, 1, 1, -1, 1) },
		func(c *api.Config) { c.Frames[0].Windows[1].Start = 1 },
		func(c *api.Config) { c.Parts = append(c.Parts, api.Part{Core: 0}) },
	}
}

// broken is the base with those breakers' doings whose bits some has, from defect 1 on.
func broken(some int) api.Config {
	c := base()
	for i, breaks := range breakers() {
		if some>>i&1 == 1 {
			breaks(&c)
		}
	}
	return c
}

// brought are the defects that come along with it.
func brought(some int) []int {
	if some>>1&1 == 1 {
		some |= 1 << 16
	}
	var l []int
	for i := range defects {
		if some>>i&1 == 1 {
			l = append(l, i+1)
		}
	}
	return l
}

// P7.1: none, each defect alone, each two, each three, all but each, and all.
func TestSeveralDefects(t *testing.T) {
	try := func(some int) {
		t.Helper()
		has(t, broken(some), brought(some)...)
	}
	const all = 1<<defects - 1
	try(0)
	try(all)
	for i := range defects {
		try(1 << i)
		try(all &^ (1 << i))
		try(all >> i)
		try(all << i & all)
		for j := range i {
			try(1<<i | 1<<j)
			for k := range j {
				try(1<<i | 1<<j | 1<<k)
			}
		}
	}
}

// P7.1: mixtures of defects in no plain pattern.
func TestMixtures(t *testing.T) {
	roll := dice()
	for range 3000 {
		some := int(roll() >> 3 & (1<<defects - 1))
		has(t, broken(some), brought(some)...)
	}
}

// P7.1, R6: All is stopped at each place: it tells nothing more, and tells all from its beginning on each time.
func TestAllStops(t *testing.T) {
	for _, c := range []api.Config{{}, broken(1<<defects - 1), broken(1<<3 | 1<<9 | 1<<15), broken(1), broken(1 << 16), good()} {
		all := All(c)
		want := slices.Collect(all)
		for stop := 1; stop <= len(want)+1; stop++ {
			var got []int
			all(func(k int) bool {
				got = append(got, k)
				return len(got) < stop
			})
			if !slices.Equal(got, want[:min(stop, len(want))]) {
				t.Error(stop, got)
			}
			if again := slices.Collect(all); !slices.Equal(again, want) {
				t.Error("behind a stop:", stop, again)
			}
		}
	}
}

// P7.1, R6: one iterator is gone through within itself.
func TestAllWithinItself(t *testing.T) {
	all := All(broken(1<<defects - 1))
	want := brought(1<<defects - 1)
	var outer []int
	for k := range all {
		outer = append(outer, k)
		if got := slices.Collect(all); !slices.Equal(got, want) {
			t.Error(got)
		}
	}
	if !slices.Equal(outer, want) {
		t.Error(outer)
	}
}

// R1: an iterator that is told is never nil, though there is nothing to tell.
func TestAllIsNeverNil(t *testing.T) {
	if All(good()) == nil || All(api.Config{}) == nil {
		t.Error("nil")
	}
}

// scrawl makes of a configuration's lists others, spare room included, and thereby of a good one a broken one.
func scrawl(c api.Config) {
	fill(c.Parts, api.Part{Core: -7, Private: -7})
	fill(c.Chans, api.Chan{Kind: -7, From: -7, To: -7, Words: -7, Depth: -7, Period: -7, Boot: 7})
	for _, f := range c.Frames {
		fill(f.Windows, api.Window{Part: -7, Start: -7, Len: -7})
	}
}

func fill[T any](l []T, by T) {
	l = l[:cap(l)]
	for i := range l {
		l[i] = by
	}
}

// R4: what is written into the lists behind the call makes no difference to what the iterator tells, ahead of the going-through or within it.
func TestHandedInIsntKept(t *testing.T) {
	const some = 1<<2 | 1<<7 | 1<<14 | 1<<15 | 1<<16
	c := broken(some)
	all := All(c)
	scrawl(c)
	if got := slices.Collect(all); !slices.Equal(got, brought(some)) {
		t.Error(got)
	}
	c = good()
	all = All(c)
	scrawl(c)
	if got := slices.Collect(all); len(got) != 0 {
		t.Error(got)
	}
	has(t, c, 2, 3, 5, 6, 7, 8, 14, 15, 17)
	c = broken(some)
	var got []int
	for k := range All(c) {
		got = append(got, k)
		scrawl(c)
	}
	if !slices.Equal(got, brought(some)) {
		t.Error(got)
	}
}

// R4: what is handed in isn't changed, spare room included.
func TestHandedInIsntChanged(t *testing.T) {
	made := func() api.Config {
		c := broken(1<<defects - 1)
		c.Parts, c.Chans = append(c.Parts, c.Parts...), append(c.Chans, c.Chans...)
		for i, f := range c.Frames {
			c.Frames[i].Windows = append(f.Windows, f.Windows...)
		}
		return c
	}
	whole := made()
	c := whole
	c.Parts, c.Chans = c.Parts[:len(c.Parts)/2], c.Chans[:len(c.Chans)/2]
	for i, f := range c.Frames {
		c.Frames[i].Windows = f.Windows[:len(f.Windows)/2]
	}
	has(t, c, brought(1<<defects-1)...)
	if !reflect.DeepEqual(whole, made()) {
		t.Error(whole)
	}
}

// R5: what is answered hangs on the configuration alone, not on those ahead of it.
func TestOneBehindTheOther(t *testing.T) {
	for range 3 {
		has(t, good())
		has(t, broken(1<<defects-1), brought(1<<defects-1)...)
		has(t, api.Config{}, 1, 12)
		has(t, full())
	}
	one, other := All(good()), All(api.Config{})
	if got := slices.Collect(other); !slices.Equal(got, []int{1, 12}) {
		t.Error(got)
	}
	if got := slices.Collect(one); len(got) != 0 {
		t.Error(got)
	}
}

// dice rolls numbers that are the same at each run.
func dice() func() uint32 {
	at := uint32(1)
	return func() uint32 {
		at = at*1664525 + 1013904223
		return at>>16 | at<<16
	}
}

// numbers are the places of a configuration's numbers.
func numbers(c *api.Config) []*int {
	l := []*int{&c.Frames[0].Length, &c.Frames[1].Length}
	for i := range c.Parts {
		l = append(l, &c.Parts[i].Core, &c.Parts[i].Private)
	}
	for i := range c.Chans {
		k := &c.Chans[i]
		l = append(l, &k.Kind, &k.From, &k.To, &k.Words, &k.Depth, &k.Period)
	}
	for _, f := range c.Frames {
		for i := range f.Windows {
			l = append(l, &f.Windows[i].Part, &f.Windows[i].Start, &f.Windows[i].Len)
		}
	}
	return l
}

// P7.1: configurations of any numbers, held against the chapter's words, worked out anew.
func TestAgainstTheWords(t *testing.T) {
	roll := dice()
	some := append([]int{0, 1, 2, 3, 4, 5, 6, 7, 8, 9, 15, 16, 17, 63, 64, 65, maxPeriod, maxPeriod + 1, maxWord - 1, maxWord + 1}, far...)
	var seen, missed [defects + 1]int
	for round := range 20000 {
		c := good()
		if round%2 == 1 {
			c = full()
		}
		places := numbers(&c)
		for range roll() % 6 {
			n := some[roll()%uint32(len(some))]
			if roll()%2 == 0 {
				n = int(roll() % 5)
			}
			*places[roll()%uint32(len(places))] = n
		}
		if roll()%4 == 0 {
			c.Chans[roll()%uint32(len(c.Chans))].Boot = roll() % 3
		}
		cut(&c, roll)
		want := due(c)
		for k := 1; k <= defects; k++ {
			if slices.Contains(want, k) {
				seen[k]++
			} else {
				missed[k]++
			}
		}
		if got := slices.Collect(All(c)); !slices.Equal(got, want) {
			t.Fatal(got, want, c)
		}
	}
	for k := 1; k <= defects; k++ {
		if seen[k] < 100 || missed[k] < 100 {
			t.Error("too rarely:", k, seen[k], missed[k])
		}
	}
}

// cut now and then makes lists longer or shorter.
func cut(c *api.Config, roll func() uint32) {
	switch roll() % 16 {
	case 0:
		c.Parts = c.Parts[:roll()%uint32(len(c.Parts)+1)]
	case 1:
		c.Parts = append(c.Parts, c.Parts...)
	case 2:
		c.Chans = c.Chans[:roll()%uint32(len(c.Chans)+1)]
	case 3:
		c.Chans = append(c.Chans, c.Chans...)
	case 4:
		w := &c.Frames[roll()%2].Windows
		*w = (*w)[:roll()%uint32(len(*w)+1)]
	case 5:
		w := &c.Frames[roll()%2].Windows
		*w = append(*w, *w...)
	case 6:
		c.Frames[0].Windows, c.Frames[1].Windows = c.Frames[1].Windows, c.Frames[0].Windows
	}
}

// due are the defects of a configuration, by the chapter's words, with sums that have no bounds.
func due(c api.Config) []int {
	has := map[int]bool{}
	when := func(k int, holds bool) { has[k] = has[k] || holds }
	no := func(n int, of ...int) bool { return !slices.Contains(of, n) }
	beside := func(n, least, greatest int) bool { return n < least || greatest < n }
	parts := len(c.Parts)
	when(1, parts == 0 || parts > 6)
	when(4, len(c.Chans) > 8)
	for p, part := range c.Parts {
		when(2, no(part.Core, 0, 1))
		when(3, beside(part.Private, 0, 64))
		windows := 0
		for core, f := range c.Frames {
			for _, w := range f.Windows {
				if w.Part == p && (no(part.Core, 0, 1) || part.Core == core) {
					windows++
				}
			}
		}
		when(17, windows == 0)
	}
	for _, k := range c.Chans {
		when(5, no(k.Kind, 1, 2))
		when(6, beside(k.From, 0, parts-1) || beside(k.To, 0, parts-1))
		when(7, k.From == k.To)
		when(8, beside(k.Words, 1, 16))
		when(9, k.Kind == 1 && k.Depth != 0 || k.Kind == 2 && no(k.Depth, 1, 2, 4, 8))
		when(10, k.Kind == 1 && beside(k.Period, 0, 1048576) || k.Kind == 2 && k.Period != 0)
		when(11, k.Kind == 1 && k.Boot != 0)
	}
	for core, f := range c.Frames {
		when(12, beside(f.Length, 1, 64))
		when(13, len(f.Windows) > 16)
		for i, w := range f.Windows {
			when(14, beside(w.Part, 0, parts-1) || c.Parts[w.Part].Core != core)
			when(15, w.Start < 0 || w.Len < 1 || sum(w.Start, w.Len).Cmp(big.NewInt(int64(f.Length))) > 0)
			if i > 0 {
				ahead := f.Windows[i-1]
				words := !beside(ahead.Start, 0, maxWord) && !beside(ahead.Len, 0, maxWord) && !beside(w.Start, 0, maxWord)
				when(16, words && sum(ahead.Start, ahead.Len).Cmp(big.NewInt(int64(w.Start))) > 0)
			}
		}
	}
	var l []int
	for k := range defects + 1 {
		if has[k] {
			l = append(l, k)
		}
	}
	return l
}
