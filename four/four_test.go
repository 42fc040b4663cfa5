package four

import (
	"math"
	"reflect"
	"slices"
	"testing"

	"porthole/api"
	"porthole/defect"
	"porthole/layout"
	"porthole/mem"
)

// The calls have the chapter's signatures.
var (
	_ func(api.Config, int, []uint32) *Writer = NewWriter
	_ func(*Writer, *mem.Mem, int) api.Did    = (*Writer).Step
	_ func(api.Config, int) *Reader           = NewReader
	_ func(*Reader, *mem.Mem, int) api.Did    = (*Reader).Step
)

// The document's codes, kinds and bounds, told anew, so that a wrong one in the package is found.
const (
	ok       = 0
	noAction = 1

	sampling = 1
	queuing  = 2

	maxWords  = 16
	maxPeriod = 1 << 20
	lastTick  = 1<<31 - 1
)

func sample(from, to, words, period int) api.Chan {
	return api.Chan{Kind: sampling, From: from, To: to, Words: words, Period: period}
}

func queue(from, to, words, depth int) api.Chan {
	return api.Chan{Kind: queuing, From: from, To: to, Words: words, Depth: depth, Boot: 9}
}

// config is of partitions with so many private words each, on both cores in turn, and of these channels.
func config(private []int, chans ...api.Chan) api.Config {
	c := api.Config{Chans: chans, Frames: [2]api.Frame{{Length: 8}, {Length: 8}}}
	for p, n := range private {
		c.Parts = append(c.Parts, api.Part{Core: p % 2, Private: n})
		f := &c.Frames[p%2]
		f.Windows = append(f.Windows, api.Window{Part: p, Start: p, Len: 1})
	}
	return c
}

// short has a channel of two words, whose latest is address 5, its slots 6 and 7, its buffers from 8, 12, 16 and 20 on, reading 24.
func short() api.Config { return config([]int{2, 3}, sample(0, 1, 2, 3)) }

const shortSize = 25

// mixed has sampling channels ahead of queues, behind them and beside each other.
func mixed() api.Config {
	return config([]int{2, 0, 64},
		sample(0, 1, 1, 0),
		queue(1, 2, 3, 2),
		sample(2, 0, 16, maxPeriod),
		sample(0, 2, 3, 7),
		queue(1, 0, 16, 8),
		queue(0, 1, 1, 1),
		sample(1, 2, 5, 1),
	)
}

var mixedSampling = []int{0, 2, 3, 6}

// room is a list with marked spare room behind it.
func room[T any](l []T, mark T) []T { return append(slices.Clone(l), mark, mark)[:len(l)] }

// held is a memory of these words.
func held(t *testing.T, words []uint32) *mem.Mem {
	t.Helper()
	m, e := mem.New(len(words))
	if e != ok {
		t.Fatal("no memory of", len(words))
	}
	for at, w := range words {
		m.Store(uint64(at), w)
	}
	return m
}

// stepper is a write or a read.
type stepper interface {
	Step(m *mem.Mem, now int) api.Did
}

// told is what a step did; a list without words is none.
func told(d api.Did) api.Did {
	if len(d.Ans.Data) == 0 {
		d.Ans.Data = nil
	}
	return d
}

func same(a, b api.Did) bool { return reflect.DeepEqual(told(a), told(b)) }

// due is what a step is to do: its tick, the word that it stores (none, if at is below 0), and what it tells.
type due struct {
	now, at int
	word    uint32
	did     api.Did
}

// does tells a fault unless the steps of x do what is due, one by one, and change no word but that.
func does(t *testing.T, x stepper, m *mem.Mem, l []due) {
	t.Helper()
	for i, d := range l {
		want := m.Words()
		if d.at >= 0 {
			want[d.at] = d.word
		}
		if got := x.Step(m, d.now); !same(got, d.did) {
			t.Fatalf("step %d tells %+v instead of %+v", i+1, got, d.did)
		}
		if got := m.Words(); !slices.Equal(got, want) {
			t.Fatalf("step %d: %v instead of %v", i+1, got, want)
		}
	}
}

// loads is due of a step that stores nothing.
func loads(now int, did api.Did) due { return due{now, -1, 0, did} }

// rests is due of steps behind an answer.
func rests() []due {
	return []due{loads(0, api.Did{}), loads(900, api.Did{}), loads(lastTick, api.Did{})}
}

var (
	nothing = api.Did{}
	stamped = api.Did{Stamped: true}
	marked  = api.Did{Mark: true}
	written = api.Did{Done: true}
	both    = api.Did{Done: true, Mark: true}
	unfound = api.Did{Done: true, Ans: api.Answer{Code: noAction}, Buffer: 1}
)

func buffer(n int) api.Did { return api.Did{Buffer: n} }

func found(valid bool, data ...uint32) api.Did {
	return api.Did{Done: true, Ans: api.Answer{Code: ok, Data: data, Valid: valid}}
}

// P11.1: three writes and four reads of one channel, step by step, through buffers of both pairs and of both indices.
func TestStepByStep(t *testing.T) {
	c := short()
	m := held(t, make([]uint32, shortSize))
	does(t, NewReader(c, 0), m, append([]due{
		loads(1, nothing), {2, 24, 0, nothing}, loads(3, nothing), loads(4, unfound),
	}, rests()...))
	does(t, NewWriter(c, 0, []uint32{71, 72}), m, append([]due{
		loads(10, nothing), loads(11, nothing), {12, 20, 2, buffer(4)}, {13, 21, 13, stamped}, {14, 22, 71, nothing}, {15, 23, 72, nothing}, {16, 7, 1, nothing}, {17, 5, 1, both},
	}, rests()...))
	does(t, NewWriter(c, 0, []uint32{81}), m, append([]due{
		loads(20, nothing), loads(21, nothing), {22, 16, 1, buffer(3)}, {23, 17, 23, stamped}, {24, 18, 81, nothing}, {25, 7, 0, marked}, {26, 5, 1, written},
	}, rests()...))
	does(t, NewReader(c, 0), m, append([]due{
		loads(22, nothing), {23, 24, 1, nothing}, loads(24, nothing), loads(25, buffer(3)), loads(26, nothing), loads(26, found(true, 81)),
	}, rests()...))
	does(t, NewWriter(c, 0, []uint32{91, 92}), m, append([]due{
		loads(30, nothing), loads(30, nothing), {30, 12, 2, buffer(2)}, {31, 13, 31, stamped}, {31, 14, 91, nothing}, {31, 15, 92, nothing}, {31, 6, 1, nothing}, {31, 5, 0, both},
	}, rests()...))
	does(t, NewWriter(c, 0, []uint32{93}), m, append([]due{
		loads(32, nothing), loads(32, nothing), {32, 8, 1, buffer(1)}, {32, 9, 32, stamped}, {32, 10, 93, nothing}, {32, 6, 0, marked}, {32, 5, 0, written},
	}, rests()...))
	does(t, NewReader(c, 0), m, append([]due{
		loads(33, nothing), {34, 24, 0, nothing}, loads(34, nothing), loads(35, buffer(1)), loads(35, nothing), loads(36, found(false, 93)),
	}, rests()...))
}

// P11.1: a read of a message of two words has its tick held against the stamp at the last step, not at an earlier one.
func TestReadOfTwoWords(t *testing.T) {
	words := make([]uint32, shortSize)
	copy(words[12:], []uint32{2, 500, 61, 62})
	words[6] = 1
	l := func(last int, valid bool) []due {
		return append([]due{
			loads(0, nothing), {lastTick, 24, 0, nothing}, loads(0, nothing), loads(lastTick, buffer(2)), loads(lastTick, nothing), loads(lastTick, nothing), loads(last, found(valid, 61, 62)),
		}, rests()...)
	}
	does(t, NewReader(short(), 0), held(t, words), l(503, true))
	does(t, NewReader(short(), 0), held(t, words), l(504, false))
}

// The chapter's examples.
func TestExamples(t *testing.T) {
	c := short()
	m := held(t, make([]uint32, shortSize))
	r := NewReader(c, 0)
	for range 3 {
		if got := r.Step(m, 1); got.Done {
			t.Error(got)
		}
	}
	if got := r.Step(m, 1); !got.Done || got.Ans.Code != noAction {
		t.Error(got)
	}
	w := NewWriter(c, 0, []uint32{8})
	for range 6 {
		if got := w.Step(m, 1); got.Done {
			t.Error(got)
		}
	}
	if got := w.Step(m, 1); !got.Done || got.Ans.Code != ok {
		t.Error(got)
	}
}

// The document's fifth example of the whole, less the steps that touch no memory.
func TestExampleOfTheWhole(t *testing.T) {
	c := config([]int{2, 1}, sample(0, 1, 2, 3))
	m := held(t, make([]uint32, layout.Size(c)))
	ends := func(x stepper, now, steps int) api.Did {
		for range steps - 1 {
			if got := x.Step(m, now); got.Done {
				t.Fatal("ended:", got)
			}
		}
		return x.Step(m, now)
	}
	if got := ends(NewReader(c, 0), 0, 4); !same(got, unfound) {
		t.Error(got)
	}
	if got := ends(NewWriter(c, 0, []uint32{8, 9}), 5, 8); !same(got, both) {
		t.Error(got)
	}
	if got := ends(NewReader(c, 0), 8, 7); !same(got, found(true, 8, 9)) {
		t.Error(got)
	}
	if got := ends(NewReader(c, 0), 9, 7); !same(got, found(false, 8, 9)) {
		t.Error(got)
	}
}

// spot tells where a sampling channel's words stand, by the chapter of the layout.
type spot struct{ from, reading, words, period int }

// spotOf counts the words ahead of channel k.
func spotOf(c api.Config, k int) spot {
	at := 0
	for _, p := range c.Parts {
		at += p.Private
	}
	for _, ch := range c.Chans[:k] {
		if ch.Kind == sampling {
			at += 3 + 4*(2+ch.Words) + 1
		} else {
			at += 1 + ch.Depth*(1+ch.Words) + 1
		}
	}
	n := c.Chans[k].Words
	return spot{at, at + 3 + 4*(2+n), n, c.Chans[k].Period}
}

func (s spot) slot(pair int) int { return s.from + 1 + pair }

func (s spot) buffer(pair, index int) int { return s.from + 3 + (2*pair+index)*(2+s.words) }

// twin is a write or a read by the chapter's words, over words of its own: step by step, by the step's number.
type twin struct {
	spot
	writes      bool
	data        []uint32
	n           int // steps that were done
	pair, index int
	length      int
	stamp       uint32
	ended       bool
	early       bool // it was marked ahead of its last step
}

func (x *twin) step(words []uint32, now int) api.Did {
	if x.ended {
		return api.Did{}
	}
	x.n++
	does := x.read
	if x.writes {
		does = x.write
	}
	did := does(words, now)
	x.ended = did.Done
	return did
}

func (x *twin) write(words []uint32, now int) (did api.Did) {
	size := len(x.data)
	b := x.buffer(x.pair, x.index)
	switch {
	case x.n == 1:
		if words[x.reading]%2 == 0 {
			x.pair = 1
		}
	case x.n == 2:
		if words[x.slot(x.pair)]%2 == 0 {
			x.index = 1
		}
	case x.n == 3:
		words[b], did.Buffer = uint32(size), 1+2*x.pair+x.index
	case x.n == 4:
		words[b+1], did.Stamped = uint32(now), true
	case x.n < 5+size:
		words[b+2+x.n-5] = x.data[x.n-5]
	case x.n == 5+size:
		words[x.slot(x.pair)] = uint32(x.index)
		x.early = int(words[x.from]%2) == x.pair
		did.Mark = x.early
	default:
		words[x.from] = uint32(x.pair)
		did.Mark, did.Done = !x.early, true
	}
	return did
}

func (x *twin) read(words []uint32, now int) (did api.Did) {
	b := x.buffer(x.pair, x.index)
	switch x.n {
	case 1:
		x.pair = int(words[x.from] & 1)
	case 2:
		words[x.reading] = uint32(x.pair)
	case 3:
		x.index = int(words[x.slot(x.pair)] & 1)
	case 4:
		did.Buffer = 1 + 2*x.pair + x.index
		if words[b] == 0 {
			did.Done, did.Ans.Code = true, noAction
		}
		x.length = int(words[b])
		if words[b] > uint32(x.words) {
			x.length = x.words
		}
	case 5:
		x.stamp = words[b+1]
	default:
		x.data = append(x.data, words[b+2+len(x.data)])
		if len(x.data) == x.length {
			did.Done, did.Ans.Data, did.Ans.Valid = true, x.data, int64(now)-int64(x.stamp) <= int64(x.period)
		}
	}
	return did
}

// pairing is a write or a read, and its twin.
type pairing struct {
	x    stepper
	twin *twin
}

func writing(c api.Config, k int, data []uint32) pairing {
	return pairing{NewWriter(c, k, data), &twin{spot: spotOf(c, k), writes: true, data: data}}
}

func reading(c api.Config, k int) pairing {
	return pairing{NewReader(c, k), &twin{spot: spotOf(c, k)}}
}

// step does the next step of both, and tells a fault unless both do the same with the memory, and tell the same.
func (p pairing) step(t *testing.T, m *mem.Mem, now int) api.Did {
	t.Helper()
	want := m.Words()
	due, got := p.twin.step(want, now), p.x.Step(m, now)
	if !same(got, due) {
		t.Fatalf("step %d at %d tells %+v instead of %+v", p.twin.n, now, got, due)
	}
	if !slices.Equal(m.Words(), want) {
		t.Fatalf("step %d at %d: %v instead of %v", p.twin.n, now, m.Words(), want)
	}
	return got
}

// through does all steps of both at one tick, and some behind them; it counts the steps up to the answer.
func (p pairing) through(t *testing.T, m *mem.Mem, now int) (api.Did, int) {
	t.Helper()
	for n := 1; n < 100; n++ {
		if did := p.step(t, m, now); did.Done {
			for range 3 {
				p.step(t, m, now)
			}
			return did, n
		}
	}
	t.Fatal("isn't answered")
	return api.Did{}, 0
}

// dice rolls numbers that are the same at each run.
func dice() func(n int) int {
	at := uint32(1)
	return func(n int) int {
		at = at*1664525 + 1013904223
		return int(at>>8) % n
	}
}

// list is n words from first on.
func list(first uint32, n int) []uint32 {
	l := make([]uint32, n)
	for i := range l {
		l[i] = first + uint32(i)
	}
	return l
}

// P11.2: of each length, up to the channel's words, of each channel's words: how many steps there are, and what is read.
func TestLengths(t *testing.T) {
	for words := 1; words <= maxWords; words++ {
		c := config([]int{1, 1}, sample(1, 0, words, 5))
		m := held(t, make([]uint32, layout.Size(c)))
		if _, n := reading(c, 0).through(t, m, 0); n != 4 {
			t.Error(words, n)
		}
		for size := 1; size <= words; size++ {
			data := list(uint32(100*size), size)
			for range 3 {
				if _, n := writing(c, 0, data).through(t, m, 40+size); n != size+6 {
					t.Error(words, size, n)
				}
			}
			for _, age := range []int{0, 5, 6} {
				got, n := reading(c, 0).through(t, m, 40+size+age)
				if n != size+5 || !same(got, found(age <= 5, data...)) {
					t.Error(words, size, n, got)
				}
			}
		}
	}
}

// odds are words that latest, slots and reading may have had: even and odd.
var odds = []uint32{0, 1, 2, 3, 1 << 31, 1<<31 + 1, math.MaxUint32 - 1, math.MaxUint32}

// P11.1: a memory that held other words before: only whether latest, the slots and reading are even counts.
func TestOtherWords(t *testing.T) {
	c := short()
	marks, buffers := map[bool]int{}, map[int]int{}
	for n := range 8 * 8 * 8 * 8 {
		words := list(1000, shortSize)
		words[5], words[6], words[7], words[24] = odds[n%8], odds[n/8%8], odds[n/64%8], odds[n/512]
		for i, from := range []int{8, 12, 16, 20} {
			words[from] = uint32((n + i) % 4)
		}
		m := held(t, words)
		reading(c, 0).through(t, m, 1000)
		m = held(t, words)
		w := writing(c, 0, []uint32{5, 6})
		w.through(t, m, 1000)
		marks[w.twin.early]++
		buffers[1+2*w.twin.pair+w.twin.index]++
		if got, _ := reading(c, 0).through(t, m, 1003); !same(got, found(true, 5, 6)) {
			t.Fatal(n, got)
		}
	}
	if len(marks) != 2 || len(buffers) != 4 {
		t.Error(marks, buffers)
	}
}

// P11.1: a length in the memory of none, of one, of the channel's words, and of more than these: that is cut to them.
func TestLengthInMemory(t *testing.T) {
	for _, x := range []struct {
		length uint32
		want   int
	}{{0, 0}, {1, 1}, {2, 2}, {3, 2}, {4, 2}, {17, 2}, {1 << 16, 2}, {1<<16 + 1, 2}, {math.MaxInt32, 2}, {1 << 31, 2}, {1<<31 + 1, 2}, {math.MaxUint32 - 1, 2}, {math.MaxUint32, 2}} {
		words := make([]uint32, shortSize)
		words[5], words[7] = 1, 0
		copy(words[16:], []uint32{x.length, 50, 61, 62, 63, 64, 65})
		got, n := reading(short(), 0).through(t, held(t, words), 53)
		due, steps := found(true, []uint32{61, 62}[:x.want]...), 5+x.want
		if x.want == 0 {
			due, steps = api.Did{Done: true, Ans: api.Answer{Code: noAction}, Buffer: 3}, 4
		}
		if !same(got, due) || n != steps {
			t.Error(x, n, got)
		}
	}
}

// P11.1: a stamp that is just as old as the period, and one tick older, up to the greatest ticks, periods and stamps; a stamp above the tick is not old.
func TestAges(t *testing.T) {
	for _, x := range []struct {
		period     int
		stamp      uint32
		now, valid int
	}{
		{0, 0, 0, 1}, {0, 0, 1, 0}, {0, 7, 7, 1}, {0, 7, 8, 0}, {0, 7, 6, 1}, {0, lastTick, lastTick, 1}, {0, lastTick - 1, lastTick, 0},
		{3, 5, 8, 1}, {3, 5, 9, 0}, {3, 0, 3, 1}, {3, 0, 4, 0}, {3, 9, 8, 1}, {3, 9, 0, 1}, {3, lastTick - 3, lastTick, 1}, {3, lastTick - 4, lastTick, 0},
		{maxPeriod, 0, maxPeriod, 1}, {maxPeriod, 0, maxPeriod + 1, 0}, {maxPeriod, 0, lastTick, 0}, {maxPeriod, lastTick - maxPeriod, lastTick, 1}, {maxPeriod, lastTick - maxPeriod - 1, lastTick, 0},
		{0, 1 << 31, 0, 1}, {0, 1 << 31, lastTick, 1}, {0, math.MaxUint32, 0, 1}, {0, math.MaxUint32, lastTick, 1}, {3, math.MaxUint32, 1, 1}, {3, math.MaxUint32, 2, 1}, {3, math.MaxUint32, 3, 1}, {3, math.MaxUint32, 4, 1}, {maxPeriod, math.MaxUint32, lastTick, 1}, {3, 1<<31 + 1, lastTick, 1},
	} {
		c := config([]int{0, 0}, sample(0, 1, 1, x.period))
		words := make([]uint32, layout.Size(c))
		copy(words[3:], []uint32{1, x.stamp, 66})
		if got, n := reading(c, 0).through(t, held(t, words), x.now); !same(got, found(x.valid == 1, 66)) || n != 6 {
			t.Error(x, n, got)
		}
	}
}

// P11.1: what is stored as the stamp is the tick of that step, and no other's, from the first tick to the last one.
func TestStamps(t *testing.T) {
	c := short()
	for _, now := range []int{0, 1, 2, 255, 256, 1<<16 - 1, 1 << 16, maxPeriod, 1 << 30, lastTick - 1, lastTick} {
		m := held(t, list(70, shortSize))
		w := NewWriter(c, 0, []uint32{1})
		for i := range 7 {
			tick := lastTick - now
			if i == 3 {
				tick = now
			}
			if got := w.Step(m, tick); got.Stamped != (i == 3) {
				t.Error(now, i, got)
			}
		}
		// Of a memory whose reading is even (94) and slot 1 odd (77) the buffer is that of pair 1, index 0.
		if got, _ := m.Load(17); got != uint32(now) {
			t.Error(now, got)
		}
	}
}

// P11.1: each sampling channel of a configuration that has several, ahead of queues and behind them: all words that are stored are its own.
func TestChannels(t *testing.T) {
	c := mixed()
	if !defect.Accepts(c) {
		t.Fatal(slices.Collect(defect.All(c)))
	}
	m := held(t, list(1<<20, layout.Size(c)))
	for round := range 12 {
		for _, k := range mixedSampling {
			before := m.Words()
			data := list(uint32(1000*round+100*k), 1+round%c.Chans[k].Words)
			writing(c, k, data).through(t, m, round)
			if got, _ := reading(c, k).through(t, m, round); !same(got, found(true, data...)) {
				t.Error(k, round, got)
			}
			for at, w := range m.Words() {
				if w != before[at] && !layout.May(c, c.Chans[k].From, at) && !layout.May(c, c.Chans[k].To, at) {
					t.Error(k, round, at)
				}
			}
		}
	}
	for _, k := range mixedSampling {
		data := list(uint32(11000+100*k), 1+11%c.Chans[k].Words)
		if got, _ := reading(c, k).through(t, m, 11); !same(got, found(true, data...)) {
			t.Error(k, got)
		}
	}
}

// rolledConfig is any configuration that has a sampling channel; one of these is told.
func rolledConfig(roll func(n int) int) (api.Config, int) {
	private := make([]int, 2+roll(5))
	for p := range private {
		private[p] = []int{0, 1, 64}[roll(3)]
	}
	c := config(private)
	k := roll(8)
	for n := range k + 1 + roll(8-k) {
		from := roll(len(private))
		to := (from + 1 + roll(len(private)-1)) % len(private)
		words := []int{1, 2, 1 + roll(maxWords), maxWords}[roll(4)]
		if n == k || roll(2) == 0 {
			c.Chans = append(c.Chans, sample(from, to, words, []int{0, 1, roll(99), maxPeriod}[roll(4)]))
		} else {
			c.Chans = append(c.Chans, queue(from, to, words, 1<<roll(4)))
		}
	}
	return c, k
}

// P11.1: each step loads its own word, as it is then, and no other one: ahead of each all words of the memory are others, and so is the memory.
func TestEachStepLoadsItsWord(t *testing.T) {
	roll := dice()
	word := func() uint32 {
		return []uint32{0, uint32(roll(20)), uint32(roll(200)), uint32(roll(1<<24)) << 8 >> roll(9), math.MaxUint32}[roll(5)]
	}
	ended := map[bool]int{}
	for range 1500 {
		c, k := rolledConfig(roll)
		if !defect.Accepts(c) {
			t.Fatal(slices.Collect(defect.All(c)))
		}
		p := reading(c, k)
		if roll(2) == 0 {
			p = writing(c, k, list(word(), 1+roll(c.Chans[k].Words)))
		}
		words := make([]uint32, layout.Size(c))
		for n := 0; ; n++ {
			for at := range words {
				words[at] = word()
			}
			now := []int{0, roll(200), roll(1 << 23), lastTick}[roll(4)]
			if p.step(t, held(t, words), now).Done {
				ended[p.twin.writes]++
				break
			}
			if n > 100 {
				t.Fatal("isn't answered")
			}
		}
		p.step(t, held(t, words), 3)
	}
	if ended[true] < 500 || ended[false] < 500 {
		t.Error(ended)
	}
}

// alone is a memory of the short channel all of whose words are alike, but one.
func alone(t *testing.T, all uint32, at int, w uint32) *mem.Mem {
	words := slices.Repeat([]uint32{all}, shortSize)
	words[at] = w
	return held(t, words)
}

// P11.1: which word each step of a read loads: it alone is right as that step is done, and the pair and the index hang on it.
func TestWhatReadsLoad(t *testing.T) {
	for _, x := range []struct{ pair, index, buffer int }{{0, 0, 8}, {0, 1, 12}, {1, 0, 16}, {1, 1, 20}} {
		r := NewReader(short(), 0)
		pair, index := uint32(x.pair), uint32(x.index)
		does(t, r, alone(t, 41-pair, 5, 40+pair), []due{loads(1, nothing)})
		does(t, r, alone(t, 1-pair, 24, 1-pair), []due{{2, 24, pair, nothing}})
		does(t, r, alone(t, 51-index, 6+x.pair, 50+index), []due{loads(3, nothing)})
		does(t, r, alone(t, 0, x.buffer, 2), []due{loads(4, buffer(1+2*x.pair+x.index))})
		does(t, r, alone(t, 999, x.buffer+1, 70), []due{loads(5, nothing)})
		does(t, r, alone(t, 888, x.buffer+2, 61), []due{loads(6, nothing)})
		does(t, r, alone(t, 777, x.buffer+3, 62), []due{loads(74, found(false, 61, 62))})
		does(t, r, alone(t, 777, x.buffer+3, 62), rests())
	}
}

// P11.1: which word each step of a write loads, and in which of the last two steps it is marked: latest is looked at as it is when the index is stored, not earlier and not later.
func TestWhatWritesLoad(t *testing.T) {
	for _, x := range []struct{ pair, index, buffer int }{{0, 0, 8}, {0, 1, 12}, {1, 0, 16}, {1, 1, 20}} {
		for _, early := range []bool{false, true} {
			w := NewWriter(short(), 0, []uint32{61, 62})
			pair, index := uint32(x.pair), uint32(x.index)
			latest := 31 - pair
			if early {
				latest = 30 + pair
			}
			does(t, w, alone(t, 40+pair, 24, 41-pair), []due{loads(1, nothing)})
			does(t, w, alone(t, 50+index, 6+x.pair, 51-index), []due{loads(2, nothing)})
			does(t, w, alone(t, 9, 0, 9), []due{{3, x.buffer, 2, buffer(1 + 2*x.pair + x.index)}})
			does(t, w, alone(t, 9, 5, 61-latest), []due{{4, x.buffer + 1, 4, stamped}, {5, x.buffer + 2, 61, nothing}, {6, x.buffer + 3, 62, nothing}})
			does(t, w, alone(t, 61-latest, 5, latest), []due{{7, 6 + x.pair, index, api.Did{Mark: early}}})
			does(t, w, alone(t, latest, 5, 61-latest), []due{{8, 5, pair, api.Did{Done: true, Mark: !early}}})
			does(t, w, alone(t, 9, 0, 9), rests())
		}
	}
}

// record is a write or a read on its way; its moments and the stamp are -1, while there are none.
type record struct {
	x                     stepper
	data                  []uint32
	from, to, mark, stamp int
	buffer, steps         int
	markedWith            []int // its steps that were marked
	stampedWith           []int // its steps that stamped
}

func begun(x stepper, data []uint32) *record {
	return &record{x: x, data: data, from: -1, to: -1, mark: -1, stamp: -1}
}

// course is what goes on on one sampling channel: the writes and the reads that have begun.
type course struct {
	c             api.Config
	k             int
	m             *mem.Mem
	moment, now   int
	writes, reads []*record
	found         int // the write that was found last
	finds         map[int]int
}

func begin(t *testing.T, c api.Config, k int, finds map[int]int) *course {
	return &course{c: c, k: k, m: held(t, make([]uint32, layout.Size(c))), found: -1, finds: finds}
}

// under is the one that is under way; none, if the last one was answered.
func under(l []*record) *record {
	if len(l) == 0 || l[len(l)-1].to >= 0 {
		return nil
	}
	return l[len(l)-1]
}

// do does a step of the record.
func (x *course) do(r *record) api.Did {
	did := r.x.Step(x.m, x.now)
	r.steps++
	if r.from < 0 {
		r.from = x.moment
	}
	if did.Buffer != 0 {
		r.buffer = did.Buffer
	}
	if did.Stamped {
		r.stamp, r.stampedWith = x.now, append(r.stampedWith, r.steps)
	}
	if did.Mark {
		r.mark, r.markedWith = x.moment, append(r.markedWith, r.steps)
	}
	if did.Done {
		r.to = x.moment
	}
	x.moment++
	return did
}

// write does the next step of a write of so many words, or begins one.
func (x *course) write(t *testing.T, size int) bool {
	t.Helper()
	w := under(x.writes)
	if w == nil {
		data := list(uint32(100*len(x.writes)+100), size)
		w = begun(NewWriter(x.c, x.k, data), data)
		x.writes = append(x.writes, w)
	}
	did := x.do(w)
	if did.Done && (did.Ans.Code != ok || w.steps != len(w.data)+6 || len(w.markedWith) != 1 || w.markedWith[0] < w.steps-1 || !slices.Equal(w.stampedWith, []int{4})) {
		t.Fatal("write:", did, w)
	}
	return did.Done
}

// read does the next step of a read, or begins one.
func (x *course) read(t *testing.T) bool {
	t.Helper()
	r := under(x.reads)
	if r == nil {
		r = begun(NewReader(x.c, x.k), nil)
		x.reads = append(x.reads, r)
	}
	did := x.do(r)
	if len(r.markedWith) > 0 || len(r.stampedWith) > 0 {
		t.Fatal("marked, or stamped:", r)
	}
	if did.Done {
		x.judge(t, r, did.Ans)
	}
	return did.Done
}

// judge tells a fault unless a read's answer is what may be.
func (x *course) judge(t *testing.T, r *record, a api.Answer) {
	t.Helper()
	found := -1
	if a.Code == ok {
		found = slices.IndexFunc(x.writes, func(w *record) bool { return slices.Equal(w.data, a.Data) })
		if found < 0 {
			t.Fatal("nobody wrote", a)
		}
	}
	// What is marked ahead of a read's first step is found, all the more what was answered ahead of it.
	least, some := x.found, false
	for i, w := range x.writes {
		if w.mark >= 0 && w.mark < r.from {
			least, some = max(least, i), true
		}
	}
	if found < least || !some && found >= 0 {
		t.Fatal("found:", found, "at least:", least)
	}
	steps := 4
	if found >= 0 {
		w := x.writes[found]
		steps = len(w.data) + 5
		if w.mark < 0 || r.buffer != w.buffer || a.Valid != (x.now-w.stamp <= x.c.Chans[x.k].Period) {
			t.Fatal("valid:", a, w, r, x.now)
		}
	}
	if r.steps != steps || a.Code != ok && (a.Code != noAction || a.Valid || len(a.Data) > 0) {
		t.Fatal("read:", r, a)
	}
	x.finds[found-least]++
	x.found = found
}

// whole does a write of one word, or a read, from its first step to its last one.
func (x *course) whole(t *testing.T, writes bool) {
	t.Helper()
	for ended := false; !ended; {
		if writes {
			ended = x.write(t, 1)
		} else {
			ended = x.read(t)
		}
	}
}

// P11.2: all ways in which the steps of some writes and some reads of one word follow each other, behind others that had ended.
func TestAllWays(t *testing.T) {
	c := config([]int{0, 0}, sample(0, 1, 1, 3))
	finds := map[int]int{}
	for _, x := range []struct {
		ahead         string
		writes, reads int
	}{{"", 2, 1}, {"w", 1, 1}, {"wr", 1, 2}, {"wrw", 1, 1}, {"wrwr", 1, 1}, {"wrww", 1, 1}, {"ww", 1, 1}, {"wrwwr", 1, 1}, {"rww", 1, 1}} {
		total := 7*x.writes + 6*x.reads
		for way := range 1 << total {
			if ones(way) != 6*x.reads {
				continue
			}
			on := begin(t, c, 0, finds)
			for _, op := range x.ahead {
				on.whole(t, op == 'w')
			}
			writes, reads := len(on.writes)+x.writes, len(on.reads)+x.reads
			for i := range total {
				if way>>i&1 == 0 {
					on.write(t, 1)
				} else if len(on.reads) < reads || under(on.reads) != nil {
					on.read(t)
				}
				on.now = on.moment / 4
			}
			if len(on.writes) != writes || len(on.reads) != reads || under(on.writes) != nil || under(on.reads) != nil {
				t.Fatal("isn't answered:", x, way)
			}
		}
	}
	if finds[0] == 0 || finds[1] == 0 {
		t.Error(finds)
	}
}

func ones(n int) int {
	count := 0
	for ; n > 0; n &= n - 1 {
		count++
	}
	return count
}

// P11.2: many writes and reads of messages of all lengths, whose steps follow each other in many ways; now and then the one side does many steps at once, or the clock goes on.
func TestManyWays(t *testing.T) {
	roll := dice()
	finds := map[int]int{}
	for range 400 {
		words := []int{1, 2, 3, 1 + roll(maxWords)}[roll(4)]
		on := begin(t, config([]int{0, 3}, queue(0, 1, 2, 2), sample(1, 0, words, roll(12))), 1, finds)
		inclined := 1 + roll(9)
		for range 60 {
			burst := []int{1, 1, 1, 2, 1 + roll(9), 1 + roll(60)}[roll(6)]
			if roll(10) < inclined {
				for range burst {
					on.write(t, 1+roll(words))
				}
			} else {
				for range burst {
					on.read(t)
				}
			}
			on.now += []int{0, 0, 1, roll(6)}[roll(4)]
		}
	}
	if finds[0] == 0 || finds[1] == 0 || finds[2] == 0 {
		t.Error(finds)
	}
}

// P11.2: a write, or a read, that stops for good within its steps keeps nobody from the end: the other side goes on as it does, and goes by what was written whole.
func TestOneSideStops(t *testing.T) {
	c := config([]int{0, 0}, sample(0, 1, 2, 9))
	for stop := range 8 {
		on := begin(t, c, 0, map[int]int{})
		for range 8 + stop {
			on.write(t, 2)
		}
		for range 5 * 7 {
			on.read(t)
		}
		if len(on.reads) != 5 || under(on.reads) != nil {
			t.Error("reads:", stop, len(on.reads))
		}
		on = begin(t, c, 0, map[int]int{})
		for range 8 {
			on.write(t, 2)
		}
		for range stop {
			on.read(t)
		}
		for range 5 * 8 {
			on.write(t, 2)
		}
		if len(on.writes) != 6 || under(on.writes) != nil {
			t.Error("writes:", stop, len(on.writes))
		}
	}
}

// P11.2: writes and reads on all sampling channels of a configuration at once: each channel is what it is alone.
func TestChannelsAtOnce(t *testing.T) {
	c := mixed()
	roll := dice()
	m := held(t, make([]uint32, layout.Size(c)))
	var all []*course
	for _, k := range mixedSampling {
		on := begin(t, c, k, map[int]int{})
		on.m = m
		all = append(all, on)
	}
	for range 4000 {
		on := all[roll(len(all))]
		if roll(2) == 0 {
			on.write(t, 1+roll(c.Chans[on.k].Words))
		} else {
			on.read(t)
		}
		on.now += roll(2)
	}
	for _, on := range all {
		if len(on.reads) < 10 || len(on.writes) < 10 || on.found < 10 {
			t.Error(on.k, len(on.reads), len(on.writes), on.found)
		}
	}
}

// scrawl writes over all that a configuration's lists have, spare room included.
func scrawl(c api.Config) {
	clear(c.Parts[:cap(c.Parts)])
	clear(c.Chans[:cap(c.Chans)])
	for _, f := range c.Frames {
		clear(f.Windows[:cap(f.Windows)])
	}
}

// loose is the mixed configuration, with marked spare room behind all its lists.
func loose() api.Config {
	c := mixed()
	c.Parts, c.Chans = room(c.Parts, api.Part{Core: 7}), room(c.Chans, api.Chan{Kind: 7})
	for core, f := range c.Frames {
		c.Frames[core].Windows = room(f.Windows, api.Window{Part: 7})
	}
	return c
}

// widened is a configuration with the spare room of its lists.
func widened(c api.Config) api.Config {
	c.Parts, c.Chans = c.Parts[:len(c.Parts)+2], c.Chans[:len(c.Chans)+2]
	for core, f := range c.Frames {
		c.Frames[core].Windows = f.Windows[:len(f.Windows)+2]
	}
	return c
}

// R4: what is handed in, the words of a write too, isn't changed, spare room included.
func TestHandedInIsntChanged(t *testing.T) {
	c := loose()
	m := held(t, make([]uint32, layout.Size(c)))
	for _, k := range mixedSampling {
		for size := 1; size <= c.Chans[k].Words; size++ {
			data := room(list(5, size), 99)
			writing(c, k, data).through(t, m, 9)
			reading(c, k).through(t, m, 9)
			if want := append(list(5, size), 99, 99); !slices.Equal(data[:size+2], want) {
				t.Error(k, data[:size+2])
			}
		}
	}
	if !reflect.DeepEqual(widened(c), widened(loose())) {
		t.Error(widened(c))
	}
}

// R4: what is handed in may be written over behind the call, ahead of each of the steps.
func TestHandedInIsntKept(t *testing.T) {
	for _, k := range mixedSampling {
		n := mixed().Chans[k].Words
		for stop := range n + 6 {
			c, data := loose(), room(list(5, n), 99)
			m := held(t, make([]uint32, layout.Size(c)))
			w := writing(mixed(), k, list(5, n))
			w.x = NewWriter(c, k, data)
			for i := range n + 6 {
				if i == stop {
					clear(data[:cap(data)])
					scrawl(c)
				}
				w.step(t, m, i)
			}
			c = loose()
			r := reading(mixed(), k)
			r.x = NewReader(c, k)
			for i := range n + 5 {
				if i == stop {
					scrawl(c)
				}
				r.step(t, m, i)
			}
			if !w.twin.ended || !r.twin.ended {
				t.Error(k, stop)
			}
		}
	}
}

// R4: an answer's words are its own: what is written into them, spare room included, is seen by nobody.
func TestAnswersAreNewMemory(t *testing.T) {
	c := config([]int{0, 0}, sample(0, 1, 16, 3))
	m := held(t, make([]uint32, layout.Size(c)))
	for size := 1; size <= 16; size++ {
		want := list(7, size)
		given := slices.Clone(want)
		writing(c, 0, given).through(t, m, 2)
		r, other := NewReader(c, 0), NewReader(c, 0)
		var got, second api.Did
		for range size + 5 {
			got, second = r.Step(m, 2), other.Step(m, 2)
		}
		if !same(got, found(true, want...)) || !same(second, got) {
			t.Fatal(size, got, second)
		}
		before, l := m.Words(), got.Ans.Data
		clear(l[:cap(l)])
		if !slices.Equal(second.Ans.Data, want) || !slices.Equal(m.Words(), before) || !slices.Equal(given, want) {
			t.Error(size, second, given)
		}
		if !same(r.Step(m, 2), nothing) {
			t.Error("a step behind the answer")
		}
		if got, _ := reading(c, 0).through(t, m, 2); !same(got, found(true, want...)) {
			t.Error(size, got)
		}
	}
}

// P11.1, R5: one that has done no step has looked at nothing: it goes by the memory that is handed in with each step; the same steps do the same each time.
func TestBegunIsNothingDone(t *testing.T) {
	c := short()
	w, r := NewWriter(c, 0, []uint32{1, 2}), NewReader(c, 0)
	for range 2 {
		m := held(t, make([]uint32, shortSize))
		writing(c, 0, []uint32{33}).through(t, m, 0)
		writing(c, 0, []uint32{44}).through(t, m, 0)
		reading(c, 0).through(t, m, 0)
	}
	m := held(t, list(0, shortSize))
	want := m.Words()
	does(t, r, m, []due{loads(1, nothing), {1, 24, 1, nothing}, loads(1, nothing), loads(1, buffer(4))})
	want[24] = 1
	does(t, w, m, []due{loads(1, nothing), loads(1, nothing), {1, 12, 2, buffer(2)}, {1, 13, 1, stamped}})
	want[12], want[13] = 2, 1
	if !slices.Equal(m.Words(), want) {
		t.Error(m.Words())
	}
}

// R3: nil and empty lists are one: a read that finds nothing, and each step that isn't the last one, has no words.
func TestNoWords(t *testing.T) {
	c := short()
	m := held(t, make([]uint32, shortSize))
	for _, x := range []stepper{NewReader(c, 0), NewWriter(c, 0, []uint32{1}), NewWriter(c, 0, []uint32{1, 2})} {
		for range 20 {
			if did := x.Step(m, 4); len(did.Ans.Data) != 0 || did.Ring || did.Ans.Count != 0 || did.Ans.Valid {
				t.Error(did)
			}
		}
	}
}
