package core

import (
	"math"
	"reflect"
	"slices"
	"strings"
	"testing"

	"porthole/api"
	"porthole/defect"
	"porthole/frame"
)

// The calls have the chapter's signatures.
var (
	_ func(api.Config) *Clock       = New
	_ func(*Clock) int              = (*Clock).Now
	_ func(*Clock, int) (int, bool) = (*Clock).Who
	_ func(*Clock) []int            = (*Clock).Tick
)

// The document's kinds and bounds, told anew, so that a wrong one in the package is found.
const (
	sampling = 1
	queuing  = 2

	maxParts   = 6
	maxFrame   = 64
	maxWindows = 16
)

// noCores are numbers below and above the two that cores have; some of them are 0 or 1 once they wrap round, lose their sign, or are taken modulo 2.
var noCores = []int{
	-1, -2, -3, -64, math.MinInt8, math.MinInt32, -1 << 32, -1<<32 + 1, -1 << 62, math.MinInt, math.MinInt + 1,
	2, 3, 4, 6, 64, 255, 256, 257, 1 << 16, 1<<16 + 1, math.MaxInt32, math.MaxInt32 + 1, 1 << 32, 1<<32 + 1, 1 << 62, math.MaxInt - 1, math.MaxInt,
}

// drawn is a frame that is drawn place by place: a capital letter where a window is entered (A of partition 0), its small one where it is open still, a stroke where none is.
type drawn string

// part is whose letter it is.
func part(letter byte) int { return int(letter|0x20) - 'a' }

func isCapital(letter byte) bool { return letter >= 'A' && letter <= 'Z' }

func (d drawn) frame() api.Frame {
	f := api.Frame{Length: len(d)}
	for place := range len(d) {
		if isCapital(d[place]) {
			f.Windows = append(f.Windows, api.Window{Part: part(d[place]), Start: place, Len: 1})
		} else if d[place] != '-' {
			f.Windows[len(f.Windows)-1].Len++
		}
	}
	return f
}

// letter is what is drawn at a tick.
func (d drawn) letter(tick int) byte { return d[tick-tick/len(d)*len(d)] }

func (d drawn) at(tick int) (int, bool) {
	if d.letter(tick) == '-' {
		return 0, false
	}
	return part(d.letter(tick)), true
}

// two are both cores' frames.
type two [2]drawn

// config has a partition for each letter, up to the last one that is drawn, on the core in whose frame it is drawn (or on none).
func (d two) config() api.Config {
	var c api.Config
	for i, of := range d {
		c.Frames[i] = of.frame()
		for _, w := range c.Frames[i].Windows {
			for w.Part >= len(c.Parts) {
				c.Parts = append(c.Parts, api.Part{Core: -1, Private: 3 * len(c.Parts)})
			}
			c.Parts[w.Part].Core = i
		}
	}
	return c
}

// entered are the partitions that are drawn as entered at a tick, core 0's ahead of core 1's.
func (d two) entered(tick int) []int {
	var l []int
	for _, of := range d {
		if letter := of.letter(tick); isCapital(letter) {
			l = append(l, part(letter))
		}
	}
	return l
}

// long is drawn, and then nobody's time up to the greatest Length.
func long(s string) drawn { return drawn(s + strings.Repeat("-", maxFrame-len(s))) }

func over(s string, n int) drawn { return drawn(strings.Repeat(s, n)) }

// some are pairs of frames of each sort.
func some() []two {
	return []two{
		// The chapter's example, and one partition alone.
		{"A", "B"}, {"B", "A"}, {"A", "-"}, {"-", "A"}, {"A--", "--"}, {"---", "-A"},
		// A window over a whole frame, at a frame's beginning, at its end, and between.
		{"Aaa", "Bb"}, {"Aa-", "-Bb"}, {"-A-", "--B"}, {"--Aa", "B---"}, {"-Aa--", "Bbb"},
		// Frames of unlike Lengths.
		{"A", "Bbbb-"}, {"Bbbb-", "A"}, {"A-", "B--"}, {"A-B", "--CcDd-"}, {"CcDd---", "AB"}, {"Aa-Bb", "-CDd--EeeF"},
		// Several windows of one partition.
		{"A-A--", "B"}, {"AAA", "BBBB"}, {"A-Bb-A", "CcD-C"}, {"AaBAaB-A", "-C-C"}, {"BbA-Aa", "-DdC"}, {"ABABAB", "CDDCC"},
		// All partitions on one core, or all but one.
		{"ABCDEF", "-"}, {"-----", "FEDCBA"}, {"AaBCccDE", "F-"}, {"D", "A-BbC-EF"}, {"FABCDE", "--"}, {"F", "E-DdCcc-BA"},
		// As many windows and ticks as there may be.
		{over("A", maxWindows), over("Bbbb", maxWindows)},
		{over("AaaaBbbb", maxWindows/2), over("-Cc-", maxWindows)},
		{"A" + over("a", maxFrame-1), over("-", maxFrame-1) + "B"},
		{long("-AaBb-C"), long("Dd-EeF")[:maxFrame-1]},
		{long("ABCDEF"), "-"}, {"------", long("ABCDEF")},
		{"ABCABCABCABCABCA", "DEFDEFDEFDEFDEFD"}, {over("A---", maxWindows), over("---B", maxWindows)},
	}
}

// short are all drawings of at most so many places, of these letters.
func short(most int, letters string) []drawn {
	var l []drawn
	ahead := []drawn{""}
	for range most {
		var longer []drawn
		for _, d := range ahead {
			longer = append(longer, d+"-")
			for _, letter := range letters {
				capital, small := drawn(letter), drawn(letter|0x20)
				longer = append(longer, d+capital)
				if strings.HasSuffix(string(d), string(capital)) || strings.HasSuffix(string(d), string(small)) {
					longer = append(longer, d+small)
				}
			}
		}
		ahead = longer
		l = append(l, longer...)
	}
	return l
}

// small are all pairs of frames of at most so many places that a clock may be of, of one partition up to three.
func small(most int) []two {
	var l []two
	for _, letters := range [][2]string{{"A", ""}, {"", "A"}, {"A", "B"}, {"B", "A"}, {"AB", "C"}, {"C", "AB"}, {"AC", "B"}} {
		for _, zero := range short(most, letters[0]) {
			for _, one := range short(most, letters[1]) {
				if d := (two{zero, one}); defect.Accepts(d.config()) {
					l = append(l, d)
				}
			}
		}
	}
	return l
}

// dice rolls numbers that are the same at each run.
func dice() func(n int) int {
	state := uint64(88172645463325252)
	return func(n int) int {
		state ^= state << 13
		state ^= state >> 7
		state ^= state << 17
		return int(state >> 33 % uint64(n))
	}
}

// rolled is any frame of these partitions, of each of which it has one window at least, if it can.
func rolled(roll func(int) int, parts []int) drawn {
	length := 1 + roll(maxFrame)
	places := make([]byte, length)
	for place, windows, open := 0, 0, byte('-'); place < length; place++ {
		switch roll(4) {
		case 0:
			open = '-'
		case 1, 2:
			if len(parts) > 0 && windows < maxWindows {
				p := parts[roll(len(parts))]
				if windows < len(parts) {
					p = parts[windows]
				}
				windows++
				places[place], open = byte('A'+p), byte('a'+p)
				continue
			}
		}
		places[place] = open
	}
	return drawn(places)
}

// rolledTwo are any two frames that a clock may be of.
func rolledTwo(roll func(int) int) two {
	for {
		var on [2][]int
		for p := range 1 + roll(maxParts) {
			core := roll(2)
			on[core] = append(on[core], p)
		}
		if d := (two{rolled(roll, on[0]), rolled(roll, on[1])}); defect.Accepts(d.config()) {
			return d
		}
	}
}

// accepted is the configuration that is drawn, which is one that a clock may be of.
func accepted(t *testing.T, d two) api.Config {
	t.Helper()
	c := d.config()
	if k := defect.First(c); k != 0 {
		t.Fatal("defect", k, d)
	}
	return c
}

// shows tells a fault unless the clock stands at the tick, with those whose time it is by the drawing; it is asked twice, since asking changes nothing.
func shows(t *testing.T, k *Clock, d two, tick int) {
	t.Helper()
	for range 2 {
		if got := k.Now(); got != tick {
			t.Fatalf("now: %d instead of %d, of %q", got, tick, d)
		}
		for core, of := range d {
			got, ok := k.Who(core)
			if want, due := of.at(tick); got != want || ok != due {
				t.Fatalf("who %d at %d: %d, %v instead of %d, %v, of %q", core, tick, got, ok, want, due, d)
			}
		}
	}
}

// ticks does a tick, and tells a fault unless it enters whom the drawing has there.
func ticks(t *testing.T, k *Clock, d two, tick int) {
	t.Helper()
	if got, want := k.Tick(), d.entered(tick); !slices.Equal(got, want) {
		t.Fatalf("tick %d: %v instead of %v, of %q", tick, got, want, d)
	}
	shows(t, k, d, tick)
}

// The chapter's example.
func TestExample(t *testing.T) {
	frames := [2]api.Frame{{Length: 1, Windows: []api.Window{{Part: 0, Start: 0, Len: 1}}}, {Length: 1, Windows: []api.Window{{Part: 1, Start: 0, Len: 1}}}}
	c := api.Config{Parts: []api.Part{{Core: 0}, {Core: 1}}, Frames: frames}
	if !defect.Accepts(c) {
		t.Fatal("isn't accepted")
	}
	k := New(c)
	for tick := 1; tick < 200; tick++ {
		if got := k.Tick(); !slices.Equal(got, []int{0, 1}) {
			t.Error(tick, got)
		}
		if k.Now() != tick {
			t.Error(tick, k.Now())
		}
		for core := range 2 {
			if p, ok := k.Who(core); p != core || !ok {
				t.Error(tick, core, p, ok)
			}
		}
	}
	// The same with the partitions the other way about: core 0's comes first, whatever its number is.
	c.Parts = []api.Part{{Core: 1}, {Core: 0}}
	c.Frames[0], c.Frames[1] = c.Frames[1], c.Frames[0]
	if !defect.Accepts(c) {
		t.Fatal("isn't accepted")
	}
	k = New(c)
	for tick := range 9 {
		if got := k.Tick(); !slices.Equal(got, []int{1, 0}) {
			t.Error(tick, got)
		}
	}
}

// P15.1: New, Now: a clock is at tick 0, however its frames are.
func TestNew(t *testing.T) {
	for _, d := range slices.Concat(some(), small(2)) {
		k := New(accepted(t, d))
		if k == nil {
			t.Fatal("no clock:", d)
		}
		shows(t, k, d, 0)
	}
}

// P15.1: a window at the first tick is open, though nothing was entered; it is entered where a frame begins anew.
func TestOpenAtFirst(t *testing.T) {
	k := New(accepted(t, two{"Aa-B", "-CcD-E"}))
	if p, ok := k.Who(0); p != 0 || !ok {
		t.Error(p, ok)
	}
	if p, ok := k.Who(1); p != 0 || ok {
		t.Error(p, ok)
	}
	for tick, want := range [][]int{{2}, nil, {1, 3}, {0}, {4}, nil, {1, 2}, {0}, {3}, nil, {1, 4}, {0}, {2}} {
		if got := k.Tick(); !slices.Equal(got, want) {
			t.Error(tick+1, got, want)
		}
	}
	// A partition whose number isn't 0 is told as well.
	k = New(accepted(t, two{"B", "Aaa"}))
	if p, ok := k.Who(0); p != 1 || !ok {
		t.Error(p, ok)
	}
	if p, ok := k.Who(1); p != 0 || !ok {
		t.Error(p, ok)
	}
}

// P15.1: two frames of unlike Lengths, 5 and 7, tick by tick: nobody entered, one of core 0 alone, one of core 1 alone, one of each.
func TestTickByTick(t *testing.T) {
	c := api.Config{
		Parts: []api.Part{{Core: 1, Private: 4}, {Core: 0}, {Core: 0, Private: 1}, {Core: 1}},
		Chans: []api.Chan{{Kind: queuing, From: 3, To: 1, Words: 3, Depth: 2, Boot: 77}, {Kind: sampling, From: 1, To: 0, Words: 2, Period: 3}},
		Frames: [2]api.Frame{
			{Length: 5, Windows: []api.Window{{Part: 2, Start: 0, Len: 2}, {Part: 1, Start: 3, Len: 1}, {Part: 2, Start: 4, Len: 1}}},
			{Length: 7, Windows: []api.Window{{Part: 3, Start: 1, Len: 3}, {Part: 0, Start: 4, Len: 2}}},
		},
	}
	if !defect.Accepts(c) {
		t.Fatal("isn't accepted")
	}
	const nobody = -1
	k := New(c)
	for tick, x := range []struct {
		zero, one int
		entered   []int
	}{
		{2, nobody, nil}, // of the new clock: nobody is entered
		{2, 3, []int{3}}, {nobody, 3, nil}, {1, 3, []int{1}}, {2, 0, []int{2, 0}}, {2, 0, []int{2}}, {2, nobody, nil},
		{nobody, nobody, nil}, {1, 3, []int{1, 3}}, {2, 3, []int{2}}, {2, 3, []int{2}}, {2, 0, []int{0}}, {nobody, 0, nil}, {1, nobody, []int{1}},
		{2, nobody, []int{2}}, {2, 3, []int{2, 3}}, {2, 3, nil}, {nobody, 3, nil}, {1, 0, []int{1, 0}}, {2, 0, []int{2}}, {2, nobody, []int{2}},
		{2, nobody, nil}, {nobody, 3, []int{3}}, {1, 3, []int{1}}, {2, 3, []int{2}}, {2, 0, []int{2, 0}}, {2, 0, nil}, {nobody, nobody, nil},
		{1, nobody, []int{1}}, {2, 3, []int{2, 3}}, {2, 3, []int{2}}, {2, 3, nil}, {nobody, 0, []int{0}}, {1, 0, []int{1}}, {2, nobody, []int{2}},
		{2, nobody, []int{2}}, {2, 3, []int{3}}, {nobody, 3, nil}, {1, 3, []int{1}},
	} {
		if tick > 0 {
			if got := k.Tick(); !slices.Equal(got, x.entered) {
				t.Errorf("tick %d: %v instead of %v", tick, got, x.entered)
			}
		}
		if k.Now() != tick {
			t.Error(tick, k.Now())
		}
		for core, want := range []int{x.zero, x.one} {
			p, ok := k.Who(core)
			if want == nobody && (p != 0 || ok) || want != nobody && (p != want || !ok) {
				t.Errorf("who %d at %d: %d, %v instead of %d", core, tick, p, ok, want)
			}
		}
	}
}

// P15.1: frames of Length 1: a window is entered with each tick, and none where there is none.
func TestLengthOne(t *testing.T) {
	for _, x := range []struct {
		d    two
		want []int
	}{
		{two{"A", "B"}, []int{0, 1}}, {two{"B", "A"}, []int{1, 0}}, {two{"A", "-"}, []int{0}}, {two{"-", "A"}, []int{0}},
	} {
		k := New(accepted(t, x.d))
		for tick := 1; tick < 100; tick++ {
			if got := k.Tick(); !slices.Equal(got, x.want) {
				t.Fatal(tick, got, x.d)
			}
			shows(t, k, x.d, tick)
		}
	}
	// One of Length 1 beside a long one, which hasn't begun anew yet.
	d := two{"A", "B" + over("b", maxFrame-1)}
	k := New(accepted(t, d))
	for tick := 1; tick < maxFrame; tick++ {
		if got := k.Tick(); !slices.Equal(got, []int{0}) {
			t.Fatal(tick, got)
		}
	}
	if got := k.Tick(); !slices.Equal(got, []int{0, 1}) {
		t.Fatal(got)
	}
}

// P15.1: Now, Who, Tick, tick by tick over more than one whole turn of both frames, as they are drawn.
func TestAsDrawn(t *testing.T) {
	for _, d := range some() {
		k := New(accepted(t, d))
		for tick := 1; tick <= 3*maxFrame+5; tick++ {
			ticks(t, k, d, tick)
		}
	}
}

// P15.1: likewise of all pairs of small frames, till both begin anew together, and a bit beyond.
func TestAllSmall(t *testing.T) {
	l := small(3)
	if len(l) < 1000 {
		t.Fatal(len(l))
	}
	for _, d := range l {
		k := New(d.config())
		for tick := 1; tick <= len(d[0])*len(d[1])+2; tick++ {
			ticks(t, k, d, tick)
		}
	}
}

// P15.1: likewise of any frames, as they are drawn, and as layer 9 tells of them.
func TestRolled(t *testing.T) {
	roll := dice()
	for range 300 {
		d := rolledTwo(roll)
		c := accepted(t, d)
		k := New(c)
		shows(t, k, d, 0)
		for tick := 1; tick <= 200; tick++ {
			var want []int
			for _, f := range c.Frames {
				if p, ok := frame.Enters(f, tick); ok {
					want = append(want, p)
				}
			}
			if got := k.Tick(); !slices.Equal(got, want) || !slices.Equal(got, d.entered(tick)) {
				t.Fatalf("tick %d: %v instead of %v, of %q", tick, got, want, d)
			}
			shows(t, k, d, tick)
			for core, f := range c.Frames {
				got, ok := k.Who(core)
				if want, due := frame.At(f, tick); got != want || ok != due {
					t.Fatalf("who %d at %d: %d, %v instead of %d, %v, of %q", core, tick, got, ok, want, due, d)
				}
			}
		}
	}
}

// P15.1: the tick is no less right behind very many.
func TestVeryManyTicks(t *testing.T) {
	d := two{"-AaB", "CcDd-"}
	k := New(accepted(t, d))
	const many = 1 << 21
	for tick := 1; tick <= many; tick++ {
		got := k.Tick()
		if tick%9973 == 0 || tick&(tick-1) == 0 || tick&(tick+1) == 0 || tick > many-40 {
			if !slices.Equal(got, d.entered(tick)) {
				t.Fatal(tick, got)
			}
			shows(t, k, d, tick)
		}
	}
	if k.Now() != many {
		t.Error(k.Now())
	}
}

// P15.1, R2: of a number that no core has it is nobody's time, and 0 is told; nor is it moved on thereby.
func TestNoSuchCore(t *testing.T) {
	for _, d := range []two{{"B", "A"}, {"A", "B"}, {"--Bb", "CA-"}, {"-", "A"}, {"B-A", "-"}} {
		k := New(accepted(t, d))
		for tick := range 12 {
			for _, core := range noCores {
				if p, ok := k.Who(core); p != 0 || ok {
					t.Fatal(core, p, ok, d)
				}
			}
			shows(t, k, d, tick)
			ticks(t, k, d, tick+1)
		}
	}
}

// P15.1: time that is nobody's, on one core or on both, from the first tick on.
func TestNobody(t *testing.T) {
	d := two{"--A--", "---B---"}
	k := New(accepted(t, d))
	none := 0
	for tick := 0; tick < 70; tick++ {
		for core := range 2 {
			p, ok := k.Who(core)
			if !ok {
				none++
				if p != 0 {
					t.Error("beside a false:", p)
				}
			} else if core != p {
				t.Error(core, p)
			}
		}
		k.Tick()
	}
	// 14 turns and 10 turns, with one tick of somebody's each.
	if none != 2*70-14-10 {
		t.Error(none)
	}
}

// watched is what a clock tells of itself over so many ticks, from its first one on: by tick, whose time it is on each core (-1: nobody's), and who was entered.
type watched struct {
	who     [][2]int
	entered [][]int
}

func watch(k *Clock, n int) watched {
	var w watched
	for tick := 0; tick <= n; tick++ {
		var entered []int
		if tick > 0 {
			entered = k.Tick()
		}
		who := [2]int{-1, -1}
		for core := range who {
			if p, ok := k.Who(core); ok {
				who[core] = p
			}
		}
		w.who, w.entered = append(w.who, who), append(w.entered, entered)
	}
	return w
}

// every are all pairs of frames that are gone through for what follows of them.
func every() []two {
	l := slices.Concat(some(), small(3))
	roll := dice()
	for range 100 {
		l = append(l, rolledTwo(roll))
	}
	return l
}

// P15.2: of each core one partition at most has its time, which is one of that core's; so no partition has its time on both.
func TestOnItsCore(t *testing.T) {
	for _, d := range every() {
		c := accepted(t, d)
		for tick, who := range watch(New(c), 2*maxFrame+1).who {
			for core, p := range who {
				if p != -1 && (p < 0 || p >= len(c.Parts) || c.Parts[p].Core != core) {
					t.Fatalf("%d at %d has %d, of %q", core, tick, p, d)
				}
			}
		}
	}
}

// P15.2: with a tick one partition of each core is entered at most, core 0's ahead of core 1's; each that is entered has its time.
func TestEnteredHasItsTime(t *testing.T) {
	for _, d := range every() {
		c := accepted(t, d)
		w := watch(New(c), 2*maxFrame+1)
		for tick, entered := range w.entered {
			last := -1
			for _, p := range entered {
				core := c.Parts[p].Core
				if core <= last {
					t.Fatalf("%v with %d, of %q", entered, tick, d)
				}
				if last = core; w.who[tick][core] != p {
					t.Fatalf("%d is entered with %d, but %v have their time, of %q", p, tick, w.who[tick], d)
				}
			}
		}
	}
}

// P15.2: each partition is entered within its core's Length ticks from the first one on, and then again within as many, each time.
func TestEnteredAgain(t *testing.T) {
	for _, d := range every() {
		c := accepted(t, d)
		const turns = 3
		w := watch(New(c), turns*maxFrame)
		for p, of := range c.Parts {
			last, length := 0, c.Frames[of.Core].Length
			for tick, entered := range w.entered {
				if slices.Contains(entered, p) {
					if tick-last > length {
						t.Fatalf("%d is entered with %d and %d, of %q", p, last, tick, d)
					}
					last = tick
				}
			}
			if last+length <= turns*maxFrame {
				t.Fatalf("%d isn't entered again behind %d, of %q", p, last, d)
			}
		}
	}
}

// P15.2: who has its time, and hadn't it a tick ahead, is entered.
func TestTimeBeginsWithAnEntry(t *testing.T) {
	for _, d := range every() {
		w := watch(New(accepted(t, d)), 2*maxFrame+1)
		for tick := 1; tick < len(w.who); tick++ {
			for core, p := range w.who[tick] {
				if p != -1 && p != w.who[tick-1][core] && !slices.Contains(w.entered[tick], p) {
					t.Fatalf("%d has its time from %d on without an entry, of %q", p, tick, d)
				}
			}
		}
	}
}

// P15.2: one with a single window comes just once in each turn of its core, whose Length the other core's has nothing to do with.
func TestOnceATurn(t *testing.T) {
	for _, x := range [][2]int{{1, 1}, {1, 64}, {64, 1}, {5, 7}, {63, 64}, {64, 63}, {2, 3}} {
		d := two{"A" + over("-", x[0]-1), over("-", x[1]-1) + "B"}
		k := New(accepted(t, d))
		for tick := 1; tick <= 3*maxFrame; tick++ {
			var want []int
			if tick%x[0] == 0 {
				want = append(want, 0)
			}
			if (tick+1)%x[1] == 0 {
				want = append(want, 1)
			}
			if got := k.Tick(); !slices.Equal(got, want) {
				t.Fatal(tick, got, want, d)
			}
		}
	}
}

// R5: clocks share nothing: two of one configuration, which go on in turn and unlike far, and one of another one between them.
func TestClocksAreTheirOwn(t *testing.T) {
	d, other := two{"Aa-Bb", "-CDd--E"}, two{"BbA", "D--CEe"}
	c := accepted(t, d)
	first, second, third := New(c), New(c), New(accepted(t, other))
	at := [3]int{}
	roll := dice()
	for range 2000 {
		switch roll(5) {
		case 0, 1, 2:
			at[0]++
			ticks(t, first, d, at[0])
		case 3:
			at[1]++
			ticks(t, second, d, at[1])
		default:
			at[2]++
			ticks(t, third, other, at[2])
		}
		shows(t, first, d, at[0])
		shows(t, second, d, at[1])
		shows(t, third, other, at[2])
	}
	if at[0] == at[1] || at[1] < 100 {
		t.Fatal(at)
	}
	fresh := New(c)
	shows(t, fresh, d, 0)
	ticks(t, fresh, d, 1)
	shows(t, first, d, at[0])
}

// R5: two clocks of one configuration tell the same, whether one is asked between its ticks or not.
func TestAlike(t *testing.T) {
	roll := dice()
	for range 50 {
		c := accepted(t, rolledTwo(roll))
		asked, other := New(c), New(c)
		for range 150 {
			for range roll(3) {
				asked.Now()
				asked.Who(roll(4) - 1)
			}
			if x, y := asked.Tick(), other.Tick(); !slices.Equal(x, y) {
				t.Fatal(x, y)
			}
		}
		if asked.Now() != 150 || other.Now() != 150 {
			t.Fatal(asked.Now(), other.Now())
		}
	}
}

// R5: what the clock has nothing to do with makes no difference: channels, and how many words are private.
func TestTheRestMakesNoDifference(t *testing.T) {
	d := two{"Aa-Bb", "-CDd--E"}
	plain := accepted(t, d)
	c := accepted(t, d)
	for p := range c.Parts {
		c.Parts[p].Private = 64 - p
	}
	c.Chans = []api.Chan{{Kind: queuing, From: 4, To: 0, Words: 16, Depth: 8, Boot: math.MaxUint32}, {Kind: sampling, From: 0, To: 3, Words: 2, Period: 1 << 20}}
	if !defect.Accepts(c) {
		t.Fatal("isn't accepted")
	}
	if x, y := watch(New(plain), 200), watch(New(c), 200); !reflect.DeepEqual(x, y) {
		t.Error(x, y)
	}
}

// room is a list with marked spare room behind it.
func room[T any](l []T, mark T) []T { return append(slices.Clone(l), mark, mark)[: len(l) : len(l)+2] }

// whole is a list with its marked spare room.
func whole[T any](l []T) []T { return l[:len(l)+2] }

// roomy is the same configuration, each list with marked spare room.
func roomy(c api.Config) api.Config {
	c.Parts, c.Chans = room(c.Parts, api.Part{Core: -7}), room(c.Chans, api.Chan{Kind: -7})
	for i := range c.Frames {
		c.Frames[i].Windows = room(c.Frames[i].Windows, api.Window{Part: -7})
	}
	return c
}

// all is all that a configuration has, spare room included.
func all(c api.Config) []any {
	return []any{
		slices.Clone(whole(c.Parts)), slices.Clone(whole(c.Chans)),
		slices.Clone(whole(c.Frames[0].Windows)), slices.Clone(whole(c.Frames[1].Windows)), c.Frames[0].Length, c.Frames[1].Length,
	}
}

// R4: what is handed in isn't changed, spare room included.
func TestHandedInIsntChanged(t *testing.T) {
	for _, d := range some() {
		c := roomy(accepted(t, d))
		before := all(c)
		k := New(c)
		for range 2*maxFrame + 1 {
			k.Tick()
			k.Who(0)
			k.Who(1)
			k.Now()
		}
		if after := all(c); !reflect.DeepEqual(after, before) {
			t.Fatalf("%v instead of %v", after, before)
		}
	}
}

// R4: what the caller writes behind New into what it handed in makes no difference: all of it is written over, at once and ahead of each tick.
func TestHandedInIsntKept(t *testing.T) {
	scrawls := []func(c *api.Config){
		func(c *api.Config) {
			clear(whole(c.Parts))
			clear(whole(c.Chans))
			for i := range c.Frames {
				clear(whole(c.Frames[i].Windows))
				c.Frames[i].Length = 0
			}
		},
		// Windows that are right still, but others.
		func(c *api.Config) {
			for i := range c.Frames {
				for j := range c.Frames[i].Windows {
					c.Frames[i].Windows[j].Part = 5 - c.Frames[i].Windows[j].Part
				}
			}
		},
		func(c *api.Config) {
			for i := range c.Frames {
				for j := range c.Frames[i].Windows {
					c.Frames[i].Windows[j] = api.Window{Part: 1, Start: j, Len: 1}
				}
			}
		},
		func(c *api.Config) { c.Frames[0], c.Frames[1] = c.Frames[1], c.Frames[0] },
		func(c *api.Config) { c.Frames = [2]api.Frame{two{"F", "E"}[0].frame(), two{"F", "E"}[1].frame()} },
	}
	for _, d := range some() {
		for _, scrawl := range scrawls {
			c := roomy(accepted(t, d))
			k := New(c)
			scrawl(&c)
			shows(t, k, d, 0)
			for tick := 1; tick <= maxFrame+3; tick++ {
				scrawl(&c)
				ticks(t, k, d, tick)
			}
		}
	}
}

// R4: two clocks are handed the same lists, one of which is cleared and filled anew between, and both of which are cleared behind: neither clock has them.
func TestHandedInTwice(t *testing.T) {
	d := two{"A-BbC", "Dd-E-F"}
	c := accepted(t, d)
	first := New(c)
	clear(c.Frames[0].Windows)
	c.Frames[0].Windows = append(c.Frames[0].Windows[:0], d[0].frame().Windows...)
	second := New(c)
	clear(c.Frames[0].Windows)
	clear(c.Frames[1].Windows)
	for tick := 1; tick <= 40; tick++ {
		ticks(t, first, d, tick)
		ticks(t, second, d, tick)
	}
}

// R4: what Tick hands out may be written over, spare room included, without changing the clock, another clock, or what was handed out ahead of it.
func TestHandedOutIsNew(t *testing.T) {
	for _, d := range some() {
		k, other := New(accepted(t, d)), New(accepted(t, d))
		var lists [][]int
		for tick := 1; tick <= 2*maxFrame+3; tick++ {
			got := k.Tick()
			if want := d.entered(tick); !slices.Equal(got, want) {
				t.Fatal(tick, got, want, d)
			}
			lists = append(lists, got)
			for i := range got[:cap(got)] {
				got[:cap(got)][i] = -1000 - tick
			}
			for ahead, l := range lists {
				for _, x := range l[:cap(l)] {
					if x != -1001-ahead {
						t.Fatal("written over from elsewhere:", tick, ahead, l)
					}
				}
			}
			_ = append(got, 5)
			shows(t, k, d, tick)
			ticks(t, other, d, tick)
		}
	}
}

// R3: nil and empty lists are one: windows of a core that has no partition, and channels.
func TestNoneAndEmpty(t *testing.T) {
	for _, windows := range [][]api.Window{nil, {}, make([]api.Window, 0, 4)} {
		for core := range 2 {
			d := two{"A-Bb-", "A-Bb-"}
			d[core] = "---"
			c := accepted(t, d)
			c.Frames[core].Windows, c.Chans = windows, make([]api.Chan, 0, 3)
			k := New(c)
			shows(t, k, d, 0)
			for tick := 1; tick < 20; tick++ {
				ticks(t, k, d, tick)
			}
		}
	}
}
