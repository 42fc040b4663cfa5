package ring

import (
	"math"
	"reflect"
	"slices"
	"testing"

	"porthole/api"
	"porthole/bell"
	"porthole/defect"
	"porthole/layout"
	"porthole/mem"
)

// The calls have the chapter's signatures.
var (
	_ func(api.Config, int, uint32, []uint32) *Op       = Send
	_ func(api.Config, int, uint32) *Op                 = Receive
	_ func(api.Config, int, uint32, bool) *Op           = Count
	_ func(*Op, *mem.Mem, *bell.Set, int) (did api.Did) = (*Op).Step
	_ func(*Op) uint32                                  = (*Op).Own
)

// The document's codes, kinds and bounds, told anew, so that a wrong one in the package is found.
const (
	ok           = 0
	notAvailable = 2

	sampling = 1
	queuing  = 2

	maxWords = 16
	lastTick = 1<<31 - 1
	top      = math.MaxUint32
)

func sample(from, to, words, period int) api.Chan {
	return api.Chan{Kind: sampling, From: from, To: to, Words: words, Period: period}
}

func queue(from, to, words, depth int, boot uint32) api.Chan {
	return api.Chan{Kind: queuing, From: from, To: to, Words: words, Depth: depth, Boot: boot}
}

// config is of partitions with so many private words each, on both cores in turn, and of these channels.
func config(private []int, chans ...api.Chan) api.Config {
	c := api.Config{Chans: chans, Frames: [2]api.Frame{{Length: 8}, {Length: 8}}}
	for p, n := range private {
		c.Parts = append(c.Parts, api.Part{Core: p % 2, Private: n})
		f := &c.Frames[p%2]
		f.Windows = append(f.Windows, api.Window{Part: p, Start: p, Len: 1})
	}
	return c
}

// short has a queue of three words and Depth 2, whose tail is address 5, its cells from 6 and 10 on, its head 14; its bells are 0 and 1.
func short(boot uint32) api.Config { return config([]int{2, 3}, queue(0, 1, 3, 2, boot)) }

const shortSize = 15

// mixed has queues ahead of sampling channels, behind them and beside each other; some numbers go round.
func mixed() api.Config {
	return config([]int{2, 0, 64},
		queue(0, 1, 1, 1, top),
		sample(0, 1, 1, 0),
		queue(1, 2, 3, 2, 0),
		queue(1, 2, 16, 8, top-3),
		sample(2, 0, 16, 7),
		sample(0, 2, 3, 7),
		queue(2, 0, 5, 4, 77),
		queue(2, 1, 2, 1, 0),
	)
}

var mixedQueuing = []int{0, 2, 3, 6, 7}

// room is a list with marked spare room behind it.
func room[T any](l []T, mark T) []T { return append(slices.Clone(l), mark, mark)[:len(l)] }

// list is n words from first on.
func list(first uint32, n int) []uint32 {
	l := make([]uint32, n)
	for i := range l {
		l[i] = first + uint32(i)
	}
	return l
}

// held is a memory of these words.
func held(t *testing.T, words []uint32) *mem.Mem {
	t.Helper()
	m, e := mem.New(len(words))
	if e != ok {
		t.Fatal("no memory of", len(words))
	}
	for at, w := range words {
		m.Store(uint64(at), w)
	}
	return m
}

// bells is n bells, of which these are pending.
func bells(t *testing.T, n int, pending ...int) *bell.Set {
	t.Helper()
	b, e := bell.New(n)
	if e != ok {
		t.Fatal("no bells:", n)
	}
	for _, i := range pending {
		if b.Ring(i) != ok {
			t.Fatal("no bell", i)
		}
	}
	return b
}

func pending(b *bell.Set) []int { return slices.Collect(b.All()) }

// told is what a step did; a list without words is none.
func told(d api.Did) api.Did {
	if len(d.Ans.Data) == 0 {
		d.Ans.Data = nil
	}
	return d
}

func same(a, b api.Did) bool { return reflect.DeepEqual(told(a), told(b)) }

// due is what a step is to do: the word that it stores (none, if at is below 0), and what it tells, and the own number behind it.
type due struct {
	at   int
	word uint32
	did  api.Did
	own  uint32
}

// does tells a fault unless the steps of o do what is due, one by one, and change no word but that, and ring no bell but that of the number rings, when it is told.
func does(t *testing.T, o *Op, m *mem.Mem, b *bell.Set, rings int, l []due) {
	t.Helper()
	for i, d := range l {
		words, bells := m.Words(), pending(b)
		if d.at >= 0 {
			words[d.at] = d.word
		}
		if d.did.Ring && !slices.Contains(bells, rings) {
			bells = append(bells, rings)
			slices.Sort(bells)
		}
		if got := o.Step(m, b, i); !same(got, d.did) {
			t.Fatalf("step %d tells %+v instead of %+v", i+1, got, d.did)
		}
		if got := m.Words(); !slices.Equal(got, words) {
			t.Fatalf("step %d: %v instead of %v", i+1, got, words)
		}
		if got := pending(b); !slices.Equal(got, bells) {
			t.Fatalf("step %d: bells %v instead of %v", i+1, got, bells)
		}
		if got := o.Own(); got != d.own {
			t.Fatalf("step %d: own number %d instead of %d", i+1, got, d.own)
		}
	}
}

// loads is due of a step that stores nothing, and tells nothing of itself but did.
func loads(did api.Did, own uint32) due { return due{-1, 0, did, own} }

func stores(at int, word uint32, own uint32) due { return due{at, word, nothing, own} }

// rests is due of steps behind an answer.
func rests(own uint32) []due { return slices.Repeat([]due{loads(nothing, own)}, 4) }

var (
	nothing = api.Did{}
	marked  = api.Did{Mark: true}
	rung    = api.Did{Done: true, Ring: true}
	refused = api.Did{Done: true, Mark: true, Ans: api.Answer{Code: notAvailable}}
)

func received(data ...uint32) api.Did {
	return api.Did{Done: true, Mark: true, Ans: api.Answer{Code: ok, Data: data}}
}

func counts(n int) api.Did {
	return api.Did{Done: true, Mark: true, Ans: api.Answer{Code: ok, Count: n}}
}

// P12.1: sends of one word, of some and of just the channel's Words, receives of these, and what is refused, step by step; in between counts at both sides.
func TestStepByStep(t *testing.T) {
	c := short(0)
	m, b := held(t, make([]uint32, shortSize)), bells(t, 2)
	does(t, Receive(c, 0, 0), m, b, 1, append([]due{loads(refused, 0)}, rests(0)...))
	does(t, Count(c, 0, 0, true), m, b, 1, append([]due{loads(counts(0), 0)}, rests(0)...))
	does(t, Count(c, 0, 0, false), m, b, 1, append([]due{loads(counts(0), 0)}, rests(0)...))
	does(t, Send(c, 0, 0, []uint32{71}), m, b, 1, append([]due{
		loads(nothing, 0), stores(6, 1, 0), stores(7, 71, 0), {5, 1, marked, 1}, loads(rung, 1),
	}, rests(1)...))
	does(t, Count(c, 0, 1, true), m, b, 1, append([]due{loads(counts(1), 1)}, rests(1)...))
	does(t, Count(c, 0, 0, false), m, b, 1, append([]due{loads(counts(1), 0)}, rests(0)...))
	does(t, Send(c, 0, 1, []uint32{81, 82, 83}), m, b, 1, append([]due{
		loads(nothing, 1), stores(10, 3, 1), stores(11, 81, 1), stores(12, 82, 1), stores(13, 83, 1), {5, 2, marked, 2}, loads(rung, 2),
	}, rests(2)...))
	does(t, Count(c, 0, 2, true), m, b, 1, append([]due{loads(counts(2), 2)}, rests(2)...))
	does(t, Count(c, 0, 0, false), m, b, 1, append([]due{loads(counts(2), 0)}, rests(0)...))
	b.Take(1)
	does(t, Send(c, 0, 2, []uint32{91, 92}), m, b, 1, append([]due{loads(refused, 2)}, rests(2)...))
	does(t, Receive(c, 0, 0), m, b, 1, append([]due{
		loads(nothing, 0), loads(nothing, 0), loads(nothing, 0), {14, 1, received(71), 1},
	}, rests(1)...))
	does(t, Send(c, 0, 2, []uint32{91, 92}), m, b, 1, append([]due{
		loads(nothing, 2), stores(6, 2, 2), stores(7, 91, 2), stores(8, 92, 2), {5, 3, marked, 3}, loads(rung, 3),
	}, rests(3)...))
	does(t, Receive(c, 0, 1), m, b, 1, append([]due{
		loads(nothing, 1), loads(nothing, 1), loads(nothing, 1), loads(nothing, 1), loads(nothing, 1), {14, 2, received(81, 82, 83), 2},
	}, rests(2)...))
	does(t, Receive(c, 0, 2), m, b, 1, append([]due{
		loads(nothing, 2), loads(nothing, 2), loads(nothing, 2), loads(nothing, 2), {14, 3, received(91, 92), 3},
	}, rests(3)...))
	does(t, Receive(c, 0, 3), m, b, 1, append([]due{loads(refused, 3)}, rests(3)...))
	if got := m.Words(); !slices.Equal(got, []uint32{0, 0, 0, 0, 0, 3, 2, 91, 92, 0, 3, 81, 82, 83, 3}) {
		t.Error(got)
	}
}

// P12.1: numbers that go round within the queue: Boot is the last number there is.
func TestNumbersGoRound(t *testing.T) {
	c := short(top)
	words := make([]uint32, shortSize)
	words[5], words[14] = top, top
	m, b := held(t, words), bells(t, 2)
	does(t, Receive(c, 0, top), m, b, 1, append([]due{loads(refused, top)}, rests(top)...))
	// An odd number has the second one of two cells, an even one the first.
	does(t, Send(c, 0, top, []uint32{71}), m, b, 1, append([]due{
		loads(nothing, top), stores(10, 1, top), stores(11, 71, top), {5, 0, marked, 0}, loads(rung, 0),
	}, rests(0)...))
	does(t, Count(c, 0, 0, true), m, b, 1, append([]due{loads(counts(1), 0)}, rests(0)...))
	does(t, Count(c, 0, top, false), m, b, 1, append([]due{loads(counts(1), top)}, rests(top)...))
	does(t, Send(c, 0, 0, []uint32{81, 82}), m, b, 1, append([]due{
		loads(nothing, 0), stores(6, 2, 0), stores(7, 81, 0), stores(8, 82, 0), {5, 1, marked, 1}, loads(rung, 1),
	}, rests(1)...))
	does(t, Count(c, 0, 1, true), m, b, 1, append([]due{loads(counts(2), 1)}, rests(1)...))
	does(t, Count(c, 0, top, false), m, b, 1, append([]due{loads(counts(2), top)}, rests(top)...))
	does(t, Send(c, 0, 1, []uint32{9}), m, b, 1, append([]due{loads(refused, 1)}, rests(1)...))
	does(t, Receive(c, 0, top), m, b, 1, append([]due{
		loads(nothing, top), loads(nothing, top), loads(nothing, top), {14, 0, received(71), 0},
	}, rests(0)...))
	does(t, Receive(c, 0, 0), m, b, 1, append([]due{
		loads(nothing, 0), loads(nothing, 0), loads(nothing, 0), loads(nothing, 0), {14, 1, received(81, 82), 1},
	}, rests(1)...))
	does(t, Receive(c, 0, 1), m, b, 1, append([]due{loads(refused, 1)}, rests(1)...))
}

// The chapter's examples.
func TestExamples(t *testing.T) {
	c := short(0)
	m, b := held(t, make([]uint32, shortSize)), bells(t, 2)
	if got := Receive(c, 0, 0).Step(m, b, 1); !got.Done || got.Ans.Code != notAvailable {
		t.Error(got)
	}
	s := Send(c, 0, 0, []uint32{8})
	for range 4 {
		if got := s.Step(m, b, 1); got.Done || got.Ring || b.Has(1) {
			t.Error(got)
		}
	}
	if got := s.Step(m, b, 1); !got.Done || !got.Ring || got.Ans.Code != ok || !b.Has(1) {
		t.Error(got)
	}
}

// The document's first three examples of the whole, less the steps that touch no memory.
func TestExamplesOfTheWhole(t *testing.T) {
	c := config([]int{2, 1}, queue(0, 1, 1, 1, 0))
	m, b := held(t, make([]uint32, layout.Size(c))), bells(t, 2)
	ends := func(o *Op, steps int) api.Did {
		for range steps - 1 {
			if got := o.Step(m, b, 0); got.Done {
				t.Fatal("ended:", got)
			}
		}
		return o.Step(m, b, 0)
	}
	if got := ends(Receive(c, 0, 0), 1); !same(got, refused) {
		t.Error(got)
	}
	if got := ends(Send(c, 0, 0, []uint32{7}), 5); !same(got, rung) {
		t.Error(got)
	}
	if got := ends(Send(c, 0, 1, []uint32{0}), 1); !same(got, refused) {
		t.Error(got)
	}
	if got := ends(Count(c, 0, 1, true), 1); !same(got, counts(1)) {
		t.Error(got)
	}
	if got := ends(Receive(c, 0, 0), 4); !same(got, received(7)) {
		t.Error(got)
	}
}

// spot tells where a queuing channel's words stand, by the chapter of the layout, and its port's bell.
type spot struct{ tail, head, words, depth, bell int }

// spotOf counts the words ahead of channel k.
func spotOf(c api.Config, k int) spot {
	at := 0
	for _, p := range c.Parts {
		at += p.Private
	}
	for _, ch := range c.Chans[:k] {
		if ch.Kind == sampling {
			at += 3 + 4*(2+ch.Words) + 1
		} else {
			at += 1 + ch.Depth*(1+ch.Words) + 1
		}
	}
	words, depth := c.Chans[k].Words, c.Chans[k].Depth
	return spot{at, at + 1 + depth*(1+words), words, depth, 2*k + 1}
}

func (s spot) cell(number uint32) int {
	return s.tail + 1 + int(uint64(number)%uint64(s.depth))*(1+s.words)
}

// less is a less b modulo 2^32.
func less(a, b uint32) int { return int((int64(a) - int64(b) + 1<<32) % (1 << 32)) }

// one more than a number, modulo 2^32.
func more(number uint32) uint32 { return uint32((uint64(number) + 1) % (1 << 32)) }

// What a twin is.
const (
	send = iota
	receive
	countAtSource
	countAtDest
)

// twin is a send, a receive or a count by the chapter's words, over words and bells of its own: step by step, by the step's number.
type twin struct {
	spot
	kind   int
	number uint32 // that was handed in
	own    uint32
	data   []uint32
	n      int // steps that were done
	length int
	ended  bool
}

func (x *twin) step(words []uint32, bells map[int]bool) (did api.Did) {
	if x.ended {
		return did
	}
	x.n++
	switch x.kind {
	case send:
		did = x.send(words, bells)
	case receive:
		did = x.receive(words)
	case countAtSource:
		did = counts(less(x.own, words[x.head]))
	case countAtDest:
		did = counts(less(words[x.tail], x.own))
	}
	x.ended = did.Done
	return did
}

func (x *twin) send(words []uint32, bells map[int]bool) (did api.Did) {
	size := len(x.data)
	cell := x.cell(x.number)
	switch {
	case x.n == 1:
		if less(x.number, words[x.head]) >= x.depth {
			return refused
		}
	case x.n == 2:
		words[cell] = uint32(size)
	case x.n < 3+size:
		words[cell+1+x.n-3] = x.data[x.n-3]
	case x.n == 3+size:
		x.own = more(x.number)
		words[x.tail], did.Mark = x.own, true
	default:
		bells[x.bell] = true
		did.Ring, did.Done = true, true
	}
	return did
}

func (x *twin) receive(words []uint32) (did api.Did) {
	cell := x.cell(x.number)
	switch {
	case x.n == 1:
		if words[x.tail] == x.number {
			return refused
		}
	case x.n == 2:
		x.length = x.words
		if words[cell] < uint32(x.words) {
			x.length = int(words[cell])
		}
	case x.n < 3+x.length:
		x.data = append(x.data, words[cell+1+x.n-3])
	default:
		x.own = more(x.number)
		words[x.head] = x.own
		did.Mark, did.Done, did.Ans.Data = true, true, x.data
	}
	return did
}

// pairing is a send, a receive or a count, and its twin.
type pairing struct {
	op   *Op
	twin *twin
}

func sending(c api.Config, k int, own uint32, data []uint32) pairing {
	return pairing{Send(c, k, own, data), &twin{spot: spotOf(c, k), kind: send, number: own, own: own, data: data}}
}

func receiving(c api.Config, k int, own uint32) pairing {
	return pairing{Receive(c, k, own), &twin{spot: spotOf(c, k), kind: receive, number: own, own: own}}
}

func counting(c api.Config, k int, own uint32, source bool) pairing {
	kind := countAtDest
	if source {
		kind = countAtSource
	}
	return pairing{Count(c, k, own, source), &twin{spot: spotOf(c, k), kind: kind, number: own, own: own}}
}

// step does the next step of both, and tells a fault unless both do the same with the memory and the bells, tell the same, and have the same own number ahead of it and behind.
func (p pairing) step(t *testing.T, m *mem.Mem, b *bell.Set, now int) api.Did {
	t.Helper()
	words, bells := m.Words(), map[int]bool{}
	for i := range b.All() {
		bells[i] = true
	}
	if got := p.op.Own(); got != p.twin.own {
		t.Fatalf("ahead of step %d: own number %d instead of %d", p.twin.n+1, got, p.twin.own)
	}
	due, got := p.twin.step(words, bells), p.op.Step(m, b, now)
	if !same(got, due) {
		t.Fatalf("step %d tells %+v instead of %+v", p.twin.n, got, due)
	}
	if !slices.Equal(m.Words(), words) {
		t.Fatalf("step %d: %v instead of %v", p.twin.n, m.Words(), words)
	}
	for i := range 2 * api.MaxChans {
		if b.Has(i) != bells[i] {
			t.Fatalf("step %d: bell %d: %v instead of %v", p.twin.n, i, b.Has(i), bells[i])
		}
	}
	if got := p.op.Own(); got != p.twin.own {
		t.Fatalf("step %d: own number %d instead of %d", p.twin.n, got, p.twin.own)
	}
	return got
}

// through does all steps of both, and some behind them; it counts the steps up to the answer.
func (p pairing) through(t *testing.T, m *mem.Mem, b *bell.Set) (api.Did, int) {
	t.Helper()
	for n := 1; n < 100; n++ {
		if did := p.step(t, m, b, n); did.Done {
			for range 3 {
				p.step(t, m, b, lastTick)
			}
			return did, n
		}
	}
	t.Fatal("isn't answered")
	return api.Did{}, 0
}

// dice rolls numbers that are the same at each run.
func dice() func(n int) int {
	at := uint32(1)
	return func(n int) int {
		at = at*1664525 + 1013904223
		return int(at>>8) % n
	}
}

var depths = []int{1, 2, 4, 8}

// Numbers at which queues begin: some of these go round within a few messages.
var boots = []uint32{0, 1, 5, 1<<31 - 1, 1 << 31, top - 8, top - 7, top - 3, top - 2, top - 1, top}

// booted is a memory of the layout's size, whose other words are w, with tail and head of channel k at its Boot.
func booted(t *testing.T, c api.Config, k int, w uint32) *mem.Mem {
	t.Helper()
	if !defect.Accepts(c) {
		t.Fatal(slices.Collect(defect.All(c)))
	}
	m := held(t, slices.Repeat([]uint32{w}, layout.Size(c)))
	x := spotOf(c, k)
	m.Store(uint64(x.tail), c.Chans[k].Boot)
	m.Store(uint64(x.head), c.Chans[k].Boot)
	return m
}

// P12.1, P12.2: of each length, up to the channel's words, of each channel's words, of each Depth: how many steps there are, and what is received.
func TestLengths(t *testing.T) {
	for _, depth := range depths {
		for words := 1; words <= maxWords; words++ {
			own := uint32(top - 3)
			c := config([]int{1, 1}, queue(1, 0, words, depth, own))
			m, b := booted(t, c, 0, 0), bells(t, 2)
			for size := 1; size <= words; size++ {
				if got, n := receiving(c, 0, own).through(t, m, b); n != 1 || !same(got, refused) {
					t.Error(words, size, n, got)
				}
				data := list(uint32(100*size), size)
				if got, n := sending(c, 0, own, data).through(t, m, b); n != size+4 || !same(got, rung) {
					t.Error(words, size, n, got)
				}
				if got, n := receiving(c, 0, own).through(t, m, b); n != size+3 || !same(got, received(data...)) {
					t.Error(words, size, n, got)
				}
				own++
			}
		}
	}
}

// P12.1, P12.2: a queue of each Depth that is filled and emptied over and over, from each Boot on: full is told just when it is, empty just when it is, and counts at both sides are right all along.
func TestFullAndEmpty(t *testing.T) {
	for _, depth := range depths {
		for _, boot := range boots {
			c := config([]int{1, 1}, sample(0, 1, 3, 3), queue(0, 1, 2, depth, boot))
			m, b := booted(t, c, 1, 9), bells(t, 4)
			sent, gone := 0, 0
			number := func(n int) uint32 { return boot + uint32(n) }
			data := func(n int) []uint32 { return list(uint32(1000+10*n), 1+n%2) }
			count := func() {
				t.Helper()
				for _, p := range []pairing{counting(c, 1, number(sent), true), counting(c, 1, number(gone), false)} {
					if got, n := p.through(t, m, b); n != 1 || !same(got, counts(sent-gone)) {
						t.Fatal(depth, boot, sent, gone, n, got)
					}
				}
			}
			for round := range 3 * depth {
				for sent-gone < depth {
					count()
					if got, _ := sending(c, 1, number(sent), data(sent)).through(t, m, b); !same(got, rung) {
						t.Fatal(depth, boot, sent, gone, got)
					}
					sent++
				}
				count()
				if got, n := sending(c, 1, number(sent), data(sent)).through(t, m, b); n != 1 || !same(got, refused) {
					t.Fatal(depth, boot, sent, gone, n, got)
				}
				for left := round % depth; sent-gone > left; gone++ {
					count()
					if got, _ := receiving(c, 1, number(gone)).through(t, m, b); !same(got, received(data(gone)...)) {
						t.Fatal(depth, boot, sent, gone, got)
					}
				}
				count()
				if sent > gone {
					continue
				}
				if got, n := receiving(c, 1, number(gone)).through(t, m, b); n != 1 || !same(got, refused) {
					t.Fatal(depth, boot, sent, gone, n, got)
				}
			}
		}
	}
}

// P12.1: the cell of a number is that number modulo Depth, up to the greatest numbers.
func TestCellOfANumber(t *testing.T) {
	for _, x := range []struct {
		depth  int
		number uint32
		cell   int
	}{
		{1, 0, 0}, {1, 1, 0}, {1, 7, 0}, {1, top, 0},
		{2, 0, 0}, {2, 1, 1}, {2, 2, 0}, {2, 7, 1}, {2, top, 1}, {2, top - 1, 0},
		{4, 0, 0}, {4, 1, 1}, {4, 3, 3}, {4, 4, 0}, {4, 6, 2}, {4, 1<<31 - 1, 3}, {4, 1 << 31, 0}, {4, 1<<31 + 1, 1}, {4, top - 3, 0}, {4, top - 1, 2}, {4, top, 3},
		{8, 0, 0}, {8, 1, 1}, {8, 7, 7}, {8, 8, 0}, {8, 13, 5}, {8, 1<<31 - 1, 7}, {8, 1 << 31, 0}, {8, top - 7, 0}, {8, top - 6, 1}, {8, top - 4, 3}, {8, top, 7},
	} {
		c := config([]int{3, 0}, queue(0, 1, 2, x.depth, x.number))
		at := 3 + 1 + 3*x.cell
		m, b := booted(t, c, 0, 55), bells(t, 2)
		want := m.Words()
		want[3], want[at], want[at+1], want[at+2] = more(x.number), 2, 61, 62
		s := Send(c, 0, x.number, []uint32{61, 62})
		for range 6 {
			s.Step(m, b, 0)
		}
		if got := m.Words(); !slices.Equal(got, want) {
			t.Error(x, got, want)
		}
		r, got := Receive(c, 0, x.number), api.Did{}
		for range 5 {
			got = r.Step(m, b, 0)
		}
		if !same(got, received(61, 62)) {
			t.Error(x, got)
		}
	}
}

// P12.1: a send, a receive and counts by any own number, in a memory whose head and tail are any words: what is told hangs on how far these are from each other alone, modulo 2^32.
func TestOtherWords(t *testing.T) {
	far := []uint32{0, 1, 2, 3, 4, 5, 7, 8, 9, 100, 1<<31 - 1, 1 << 31, 1<<31 + 1, top - 8, top - 7, top - 1, top}
	full, empty := 0, 0
	for _, depth := range depths {
		c := config([]int{2, 3}, queue(0, 1, 2, depth, 5))
		at := spotOf(c, 0)
		for _, own := range boots {
			for _, d := range far {
				words := list(1000, layout.Size(c))
				words[at.head], words[at.cell(own)] = own-d, uint32(depth)
				m, b := held(t, words), bells(t, 2, 0)
				want := rung
				if d >= uint32(depth) {
					want = refused
					full++
				}
				if got, _ := sending(c, 0, own, []uint32{5}).through(t, m, b); !same(got, want) || b.Has(1) != want.Ring {
					t.Error(depth, own, d, got)
				}
				m = held(t, words)
				if got, n := counting(c, 0, own, true).through(t, m, b); n != 1 || !same(got, counts(int(d))) {
					t.Error(depth, own, d, n, got)
				}
				words[at.tail], words[at.cell(own)] = own+d, 1
				m = held(t, words)
				want = received(words[at.cell(own)+1])
				if d == 0 {
					want = refused
					empty++
				}
				if got, _ := receiving(c, 0, own).through(t, m, b); !same(got, want) {
					t.Error(depth, own, d, got)
				}
				m = held(t, words)
				if got, n := counting(c, 0, own, false).through(t, m, b); n != 1 || !same(got, counts(int(d))) {
					t.Error(depth, own, d, n, got)
				}
			}
		}
	}
	if full == 0 || empty == 0 {
		t.Error(full, empty)
	}
}

// P12.1: a length in the memory of none, of one, of the channel's Words, and of more than these: that is cut to them.
func TestLengthInMemory(t *testing.T) {
	for _, x := range []struct {
		length uint32
		want   int
	}{{0, 0}, {1, 1}, {2, 2}, {3, 3}, {4, 3}, {5, 3}, {17, 3}, {1 << 16, 3}, {1<<16 + 1, 3}, {math.MaxInt32, 3}, {1 << 31, 3}, {1<<31 + 1, 3}, {top - 1, 3}, {top, 3}} {
		words := make([]uint32, shortSize)
		copy(words[5:], []uint32{9, x.length, 61, 62, 63, 64, 65, 66, 67, 8})
		m, b := held(t, words), bells(t, 2)
		got, n := receiving(short(0), 0, 8).through(t, m, b)
		if !same(got, received([]uint32{61, 62, 63}[:x.want]...)) || n != 3+x.want {
			t.Error(x, n, got)
		}
	}
}

// P12.1: which step is marked, and which one rings: of each that isn't the one that the chapter names neither holds.
func TestMarksAndRings(t *testing.T) {
	c := short(0)
	m, b := held(t, make([]uint32, shortSize)), bells(t, 2)
	for _, x := range []struct {
		op           *Op
		marks, rings []int
	}{
		{Receive(c, 0, 0), []int{1}, nil},
		{Count(c, 0, 0, true), []int{1}, nil},
		{Count(c, 0, 0, false), []int{1}, nil},
		{Send(c, 0, 0, []uint32{1}), []int{4}, []int{5}},
		{Send(c, 0, 1, []uint32{1, 2, 3}), []int{6}, []int{7}},
		{Send(c, 0, 2, []uint32{1}), []int{1}, nil},
		{Count(c, 0, 2, true), []int{1}, nil},
		{Count(c, 0, 0, false), []int{1}, nil},
		{Receive(c, 0, 0), []int{4}, nil},
		{Receive(c, 0, 1), []int{6}, nil},
		{Receive(c, 0, 2), []int{1}, nil},
	} {
		var marks, rings []int
		for n := 1; n < 20; n++ {
			did := x.op.Step(m, b, 0)
			if did.Mark {
				marks = append(marks, n)
			}
			if did.Ring {
				rings = append(rings, n)
			}
		}
		if !slices.Equal(marks, x.marks) || !slices.Equal(rings, x.rings) {
			t.Error(marks, rings, x)
		}
	}
}

// P12.1: the own number: that which was handed in, and one more from the step on that stores tail, or head; of what was refused, and of a count, it stays.
func TestOwn(t *testing.T) {
	for _, own := range boots {
		c := short(own)
		m, b := booted(t, c, 0, 0), bells(t, 2)
		for _, x := range []struct {
			op     *Op
			number uint32
			grows  int // the step with which it is one more
		}{
			{Receive(c, 0, own), own, 99},
			{Send(c, 0, own, []uint32{1, 2}), own, 5},
			{Count(c, 0, own, false), own, 99},
			{Count(c, 0, own+1, true), own + 1, 99},
			{Send(c, 0, own+1, []uint32{1}), own + 1, 4},
			{Send(c, 0, own+2, []uint32{1}), own + 2, 99},
			{Receive(c, 0, own), own, 5},
			{Receive(c, 0, own+1), own + 1, 4},
			{Receive(c, 0, own+2), own + 2, 99},
		} {
			for n := range 12 {
				want := x.number
				if n >= x.grows {
					want = more(x.number)
				}
				if got := x.op.Own(); got != want {
					t.Error(own, n, got, want)
				}
				x.op.Step(m, b, 0)
			}
		}
	}
}

// P12.1: the destination port's bell is rung with the step behind the one that stores tail, be it rung already or not; no other bell is, nor is one taken; what is refused rings none.
func TestBells(t *testing.T) {
	c := mixed()
	for _, k := range mixedQueuing {
		own := c.Chans[k].Boot
		for i := range 1 << 8 {
			var before []int
			for n := range 16 {
				// Bells that are eight apart are pending together, those about the port's in all ways.
				if i>>((n+16-2*k)%8)&1 == 1 {
					before = append(before, n)
				}
			}
			m, b := booted(t, c, k, 1), bells(t, 16, before...)
			s := Send(c, k, own, []uint32{5})
			for n := range 4 {
				if s.Step(m, b, 0); !slices.Equal(pending(b), before) {
					t.Fatal(k, n, pending(b), before)
				}
			}
			want := before
			if !slices.Contains(want, 2*k+1) {
				want = append(slices.Clone(want), 2*k+1)
				slices.Sort(want)
			}
			if did := s.Step(m, b, 0); !same(did, rung) || !slices.Equal(pending(b), want) {
				t.Fatal(k, did, pending(b), want)
			}
			b.Take(2*k + 1)
			left := pending(b)
			if s.Step(m, b, 0); !slices.Equal(pending(b), left) {
				t.Fatal("a step behind the answer rings:", k, pending(b))
			}
			full := Send(c, k, own+uint32(c.Chans[k].Depth), []uint32{5})
			if did := full.Step(m, b, 0); !same(did, refused) || !slices.Equal(pending(b), left) {
				t.Fatal(k, did, pending(b))
			}
		}
	}
}

// P12.1: a step of one that was answered does nothing, whatever the memory is then.
func TestBehindTheAnswer(t *testing.T) {
	c := short(0)
	for _, x := range []struct {
		p    pairing
		tail uint32
		head uint32
	}{
		{sending(c, 0, 4, []uint32{1, 2}), 4, 4},
		{sending(c, 0, 4, []uint32{1, 2}), 4, 2},
		{receiving(c, 0, 4), 6, 4},
		{receiving(c, 0, 4), 4, 4},
		{counting(c, 0, 4, true), 4, 4},
		{counting(c, 0, 4, false), 4, 4},
	} {
		words := slices.Repeat([]uint32{2}, shortSize)
		words[5], words[14] = x.tail, x.head
		b := bells(t, 2)
		x.p.through(t, held(t, words), b)
		b.Take(1)
		for _, tail := range []uint32{0, 4, 5, 6, top} {
			for _, head := range []uint32{0, 2, 3, 4, 5, top} {
				words[5], words[14] = tail, head
				x.p.step(t, held(t, words), b, int(tail%9))
			}
		}
	}
}

// P12.1: each queuing channel of a configuration that has several, ahead of sampling channels and behind them: all words that are stored are its own, and so are its bells.
func TestChannels(t *testing.T) {
	c := mixed()
	if !defect.Accepts(c) {
		t.Fatal(slices.Collect(defect.All(c)))
	}
	m, b := held(t, list(1<<20, layout.Size(c))), bells(t, 16)
	for _, k := range mixedQueuing {
		m.Store(uint64(spotOf(c, k).tail), c.Chans[k].Boot)
		m.Store(uint64(spotOf(c, k).head), c.Chans[k].Boot)
	}
	for round := range 20 {
		for _, k := range mixedQueuing {
			ch, before := c.Chans[k], m.Words()
			own := ch.Boot + uint32(round)
			data := list(uint32(1000*round+100*k), 1+round%ch.Words)
			sending(c, k, own, data).through(t, m, b)
			for at, w := range m.Words() {
				if w != before[at] && !layout.May(c, ch.From, at) {
					t.Error(k, round, at)
				}
			}
			if got := b.Take(upTo(16)...); !slices.Equal(got, []int{2*k + 1}) {
				t.Error(k, round, got)
			}
		}
		for _, k := range mixedQueuing {
			ch, before := c.Chans[k], m.Words()
			own := ch.Boot + uint32(round)
			data := list(uint32(1000*round+100*k), 1+round%ch.Words)
			if got, _ := receiving(c, k, own).through(t, m, b); !same(got, received(data...)) {
				t.Error(k, round, got)
			}
			for at, w := range m.Words() {
				if w != before[at] && (at != spotOf(c, k).head || !layout.May(c, ch.To, at)) {
					t.Error(k, round, at)
				}
			}
		}
	}
}

// upTo is the numbers from 0 on, below n.
func upTo(n int) []int {
	l := make([]int, n)
	for i := range l {
		l[i] = i
	}
	return l
}

// rolledConfig is any configuration that has a queue; one of these is told.
func rolledConfig(roll func(n int) int) (api.Config, int) {
	private := make([]int, 2+roll(5))
	for p := range private {
		private[p] = []int{0, 1, 64}[roll(3)]
	}
	c := config(private)
	k := roll(8)
	for n := range k + 1 + roll(8-k) {
		from := roll(len(private))
		to := (from + 1 + roll(len(private)-1)) % len(private)
		words := []int{1, 2, 1 + roll(maxWords), maxWords}[roll(4)]
		if n == k || roll(2) == 0 {
			c.Chans = append(c.Chans, queue(from, to, words, depths[roll(4)], boots[roll(len(boots))]))
		} else {
			c.Chans = append(c.Chans, sample(from, to, words, roll(99)))
		}
	}
	return c, k
}

// rolledPairing is any send, receive or count of a queue.
func rolledPairing(roll func(n int) int, c api.Config, k int, own uint32) pairing {
	switch roll(5) {
	case 0, 1:
		return sending(c, k, own, list(uint32(roll(1<<20))<<12, 1+roll(c.Chans[k].Words)))
	case 2, 3:
		return receiving(c, k, own)
	}
	return counting(c, k, own, roll(2) == 0)
}

// P12.1: each step loads its own word, as it is then, and no other one: ahead of each all words of the memory are others, and so are the memory and the bells.
func TestEachStepLoadsItsWord(t *testing.T) {
	roll := dice()
	var own uint32
	word := func() uint32 {
		return []uint32{0, uint32(roll(20)), own - uint32(roll(10)), own + uint32(roll(10)), uint32(roll(1<<24)) << 8 >> roll(9), top}[roll(6)]
	}
	steps := map[int]int{}
	for range 3000 {
		c, k := rolledConfig(roll)
		if !defect.Accepts(c) {
			t.Fatal(slices.Collect(defect.All(c)))
		}
		own = []uint32{0, top, uint32(roll(1<<20)) << 12, boots[roll(len(boots))]}[roll(4)]
		p := rolledPairing(roll, c, k, own)
		words := make([]uint32, layout.Size(c))
		for ended := false; !ended; {
			for at := range words {
				words[at] = word()
			}
			ended = p.step(t, held(t, words), bells(t, 2*len(c.Chans), roll(2*len(c.Chans))), []int{0, roll(200), lastTick}[roll(3)]).Done
			if p.twin.n > 100 {
				t.Fatal("isn't answered")
			}
		}
		steps[p.twin.kind]++
		if p.twin.n > 1 {
			steps[p.twin.kind+10]++
		}
		p.step(t, held(t, words), bells(t, 2*len(c.Chans)), 3)
	}
	for _, n := range []int{send, receive, countAtSource, countAtDest, send + 10, receive + 10} {
		if steps[n] < 100 {
			t.Error(steps)
		}
	}
}

// alone is a memory of the short channel all of whose words are alike, but one.
func alone(t *testing.T, all uint32, at int, w uint32) *mem.Mem {
	words := slices.Repeat([]uint32{all}, shortSize)
	words[at] = w
	return held(t, words)
}

// P12.1: which word each step loads: it alone is right as that step is done.
func TestWhatStepsLoad(t *testing.T) {
	c := short(0)
	for _, x := range []struct {
		own  uint32
		cell int
	}{{100, 6}, {101, 10}, {0, 6}, {top, 10}} {
		b, next := bells(t, 2), more(x.own)
		far := x.own + 1<<20
		s := Send(c, 0, x.own, []uint32{61, 62})
		does(t, s, alone(t, far, 14, x.own-1), b, 1, []due{loads(nothing, x.own)})
		does(t, s, alone(t, far, 0, 7), b, 1, append([]due{
			stores(x.cell, 2, x.own), stores(x.cell+1, 61, x.own), stores(x.cell+2, 62, x.own), {5, next, marked, next}, loads(rung, next),
		}, rests(next)...))
		does(t, Send(c, 0, x.own, []uint32{61, 62}), alone(t, x.own, 14, x.own-2), b, 1, append([]due{loads(refused, x.own)}, rests(x.own)...))
		r := Receive(c, 0, x.own)
		does(t, r, alone(t, x.own, 5, x.own+1), b, 1, []due{loads(nothing, x.own)})
		does(t, r, alone(t, x.own, x.cell, 2), b, 1, []due{loads(nothing, x.own)})
		does(t, r, alone(t, x.own, x.cell+1, 71), b, 1, []due{loads(nothing, x.own)})
		does(t, r, alone(t, x.own, x.cell+2, 72), b, 1, []due{loads(nothing, x.own)})
		does(t, r, alone(t, x.own, 5, x.own), b, 1, append([]due{{14, next, received(71, 72), next}}, rests(next)...))
		does(t, Receive(c, 0, x.own), alone(t, far, 5, x.own), b, 1, append([]due{loads(refused, x.own)}, rests(x.own)...))
		does(t, Count(c, 0, x.own, true), alone(t, far, 14, x.own-2), b, 1, []due{loads(counts(2), x.own)})
		does(t, Count(c, 0, x.own, false), alone(t, far, 5, x.own+2), b, 1, []due{loads(counts(2), x.own)})
	}
}

// side is what a sender, or a receiver, does: one call after the other.
type side struct {
	op    *Op // that is under way; none, if it is nil
	kind  int
	own   uint32
	data  []uint32
	steps int
}

// course is what goes on on one queue.
type course struct {
	c                api.Config
	k, depth         int
	m                *mem.Mem
	b                *bell.Set
	sender, receiver side
	tries            int        // sends that were begun
	sent             [][]uint32 // messages that were marked as sent
	gone             int        // how many of these were marked as received
	ended            map[string]int
}

func start(t *testing.T, c api.Config, k int, ended map[string]int) *course {
	t.Helper()
	boot := c.Chans[k].Boot
	return &course{
		c: c, k: k, depth: c.Chans[k].Depth, ended: ended,
		m: booted(t, c, k, 5), b: bells(t, 2*len(c.Chans)),
		sender: side{own: boot}, receiver: side{own: boot},
	}
}

// send does the sender's next step, of a send of so many words (of a count, if there are none) that begins with it, if nothing is under way.
func (x *course) send(t *testing.T, size int) bool {
	t.Helper()
	s := &x.sender
	if s.op == nil && size > 0 {
		x.tries++
		s.kind, s.data = send, list(uint32(100*x.tries), size)
		s.op = Send(x.c, x.k, s.own, s.data)
	} else if s.op == nil {
		s.kind, s.data = countAtSource, nil
		s.op = Count(x.c, x.k, s.own, true)
	}
	return x.step(t, s)
}

// receive does the receiver's next step, likewise.
func (x *course) receive(t *testing.T, count bool) bool {
	t.Helper()
	s := &x.receiver
	if s.op == nil && !count {
		s.kind = receive
		s.op = Receive(x.c, x.k, s.own)
	} else if s.op == nil {
		s.kind = countAtDest
		s.op = Count(x.c, x.k, s.own, false)
	}
	return x.step(t, s)
}

// due is what the next step of a side is to tell: it hangs on what was marked ahead of it alone.
func (x *course) due(s *side) api.Did {
	kept := len(x.sent) - x.gone
	switch {
	case s.kind == countAtSource || s.kind == countAtDest:
		return counts(kept)
	case s.steps == 0 && (s.kind == send && kept == x.depth || s.kind == receive && kept == 0):
		return refused
	case s.kind == send && s.steps == len(s.data)+2:
		return marked
	case s.kind == send && s.steps == len(s.data)+3:
		return rung
	case s.kind == receive && s.steps == len(x.sent[x.gone])+2:
		return received(x.sent[x.gone]...)
	}
	return nothing
}

// step does a side's next step, and tells a fault unless it tells what is due; it answers whether that was the last one.
func (x *course) step(t *testing.T, s *side) bool {
	t.Helper()
	want, got := x.due(s), s.op.Step(x.m, x.b, s.steps)
	if !same(got, want) {
		t.Fatalf("step %d of %+v tells %+v instead of %+v (%d, %d)", s.steps+1, s, got, want, len(x.sent), x.gone)
	}
	if got := x.b.Take(2*x.k + 1); len(got) > 0 != want.Ring {
		t.Fatal("bells:", got, s)
	}
	if got.Mark && got.Ans.Code == ok {
		switch s.kind {
		case send:
			x.sent = append(x.sent, s.data)
		case receive:
			x.gone++
		}
	}
	s.steps++
	if got.Done {
		x.ended[[]string{"send", "receive", "count", "count"}[s.kind]+[]string{"", "", " not"}[got.Ans.Code]]++
		s.own, s.op, s.steps = s.op.Own(), nil, 0
	}
	return got.Done
}

// rest does what is under way to its end, and receives all that is left.
func (x *course) rest(t *testing.T) {
	t.Helper()
	for x.sender.op != nil {
		x.send(t, 1)
	}
	for x.receiver.op != nil || x.gone < len(x.sent) {
		x.receive(t, false)
	}
	boot := x.c.Chans[x.k].Boot
	if own := boot + uint32(x.gone); x.sender.own != own || x.receiver.own != own {
		t.Fatal("own numbers:", x.sender.own, x.receiver.own, own)
	}
}

func (x *course) all(t *testing.T) {
	t.Helper()
	for _, way := range []string{"send", "receive", "count", "send not", "receive not"} {
		if x.ended[way] == 0 {
			t.Error(way, x.ended)
		}
	}
}

// P12.2: all ways in which the steps of sends and receives of one word follow each other, behind some sends that had ended: each tells what is due, and all is received in the end.
func TestAllWays(t *testing.T) {
	const picks = 13
	for _, x := range []struct {
		depth, ahead int
		boot         uint32
	}{{1, 0, 0}, {1, 1, top}, {2, 0, top - 1}, {2, 1, top}, {2, 2, 7}, {4, 3, top - 2}} {
		c := config([]int{0, 1}, queue(1, 0, 1, x.depth, x.boot))
		ended := map[string]int{}
		for way := range 1 << picks {
			on := start(t, c, 0, ended)
			for range x.ahead {
				for !on.send(t, 1) {
				}
			}
			for i := range picks {
				if way>>i&1 == 0 {
					on.send(t, 1)
				} else {
					on.receive(t, false)
				}
			}
			on.rest(t)
		}
		if ended["send"] == 0 || ended["receive"] == 0 || ended["send not"] == 0 || x.ahead < 2 && ended["receive not"] == 0 {
			t.Error(x, ended)
		}
	}
}

// P12.2: many sends, receives and counts of messages of all lengths, of each Depth, whose steps follow each other in many ways; now and then the one side does many steps at once.
func TestManyWays(t *testing.T) {
	roll := dice()
	ended := map[string]int{}
	for range 300 {
		words := []int{1, 2, 3, 1 + roll(maxWords)}[roll(4)]
		c := config([]int{0, 3}, sample(0, 1, 2, 2), queue(1, 0, words, depths[roll(4)], boots[roll(len(boots))]))
		on := start(t, c, 1, ended)
		inclined := 1 + roll(9)
		for range 80 {
			burst := []int{1, 1, 1, 2, 1 + roll(9), 1 + roll(60)}[roll(6)]
			if roll(10) < inclined {
				for range burst {
					on.send(t, min(roll(6), 1)*(1+roll(words)))
				}
			} else {
				for range burst {
					on.receive(t, roll(6) == 0)
				}
			}
		}
		on.rest(t)
	}
	(&course{ended: ended}).all(t)
}

// P12.2: a send, or a receive, that stops for good within its steps keeps nobody from an answer: the other side goes on as it does, and goes by what was marked.
func TestOneSideStops(t *testing.T) {
	for _, depth := range depths {
		c := config([]int{0, 0}, queue(0, 1, 2, depth, top))
		for stop := range 7 {
			on := start(t, c, 0, map[string]int{})
			for range 6 + stop {
				on.send(t, 2)
			}
			for range 40 {
				on.receive(t, false)
			}
			if want := min(1+stop/5, depth); on.gone != len(on.sent) || on.gone != want || on.ended["receive not"] == 0 {
				t.Error(depth, stop, on.gone, on.ended)
			}
			on = start(t, c, 0, map[string]int{})
			for range 6 {
				on.send(t, 2)
			}
			for range stop {
				on.receive(t, false)
			}
			for range 10 * depth {
				on.send(t, 2)
			}
			if len(on.sent)-on.gone != depth || on.ended["send not"] == 0 {
				t.Error(depth, stop, len(on.sent), on.ended)
			}
		}
	}
}

// P12.2: sends, receives and counts on all queuing channels of a configuration at once: each channel is what it is alone.
func TestChannelsAtOnce(t *testing.T) {
	c := mixed()
	roll := dice()
	m, b := held(t, make([]uint32, layout.Size(c))), bells(t, 2*len(c.Chans))
	var all []*course
	for _, k := range mixedQueuing {
		on := start(t, c, k, map[string]int{})
		m.Store(uint64(spotOf(c, k).tail), c.Chans[k].Boot)
		m.Store(uint64(spotOf(c, k).head), c.Chans[k].Boot)
		on.m, on.b = m, b
		all = append(all, on)
	}
	for range 8000 {
		on := all[roll(len(all))]
		if roll(2) == 0 {
			on.send(t, min(roll(6), 1)*(1+roll(c.Chans[on.k].Words)))
		} else {
			on.receive(t, roll(6) == 0)
		}
	}
	for _, on := range all {
		on.rest(t)
		if on.gone < 10 || len(pending(b)) > 0 {
			t.Error(on.k, on.gone, pending(b))
		}
	}
}

// scrawl writes over all that a configuration's lists have, spare room included.
func scrawl(c api.Config) {
	clear(c.Parts[:cap(c.Parts)])
	clear(c.Chans[:cap(c.Chans)])
	for _, f := range c.Frames {
		clear(f.Windows[:cap(f.Windows)])
	}
}

// loose is the mixed configuration, with marked spare room behind all its lists.
func loose() api.Config {
	c := mixed()
	c.Parts, c.Chans = room(c.Parts, api.Part{Core: 7}), room(c.Chans, api.Chan{Kind: 7})
	for core, f := range c.Frames {
		c.Frames[core].Windows = room(f.Windows, api.Window{Part: 7})
	}
	return c
}

// widened is a configuration with the spare room of its lists.
func widened(c api.Config) api.Config {
	c.Parts, c.Chans = c.Parts[:len(c.Parts)+2], c.Chans[:len(c.Chans)+2]
	for core, f := range c.Frames {
		c.Frames[core].Windows = f.Windows[:len(f.Windows)+2]
	}
	return c
}

// R4: what is handed in, the words of a send too, isn't changed, spare room included.
func TestHandedInIsntChanged(t *testing.T) {
	c := loose()
	b := bells(t, 2*len(c.Chans))
	for _, k := range mixedQueuing {
		own := c.Chans[k].Boot
		m := booted(t, c, k, 1)
		for size := 1; size <= c.Chans[k].Words; size++ {
			data := room(list(5, size), 99)
			sending(c, k, own, data).through(t, m, b)
			counting(c, k, own, false).through(t, m, b)
			counting(c, k, own+1, true).through(t, m, b)
			receiving(c, k, own).through(t, m, b)
			sending(c, k, own+100, data).through(t, m, b)
			if want := append(list(5, size), 99, 99); !slices.Equal(data[:size+2], want) {
				t.Error(k, data[:size+2])
			}
			own++
		}
	}
	if !reflect.DeepEqual(widened(c), widened(loose())) {
		t.Error(widened(c))
	}
}

// R4: what is handed in may be written over behind the call, ahead of each of the steps.
func TestHandedInIsntKept(t *testing.T) {
	for _, k := range mixedQueuing {
		own, n := mixed().Chans[k].Boot, mixed().Chans[k].Words
		for stop := range n + 5 {
			m, b := booted(t, mixed(), k, 1), bells(t, 16)
			pairings := []pairing{sending(mixed(), k, own, list(5, n)), counting(mixed(), k, own+1, true), counting(mixed(), k, own, false), receiving(mixed(), k, own)}
			for i, p := range pairings {
				c, data := loose(), room(list(5, n), 99)
				switch i {
				case 0:
					p.op = Send(c, k, own, data)
				case 1:
					p.op = Count(c, k, own+1, true)
				case 2:
					p.op = Count(c, k, own, false)
				case 3:
					p.op = Receive(c, k, own)
				}
				for i := range n + 5 {
					if i == stop {
						clear(data[:cap(data)])
						scrawl(c)
					}
					p.step(t, m, b, i)
				}
				if !p.twin.ended {
					t.Error(k, stop)
				}
			}
		}
	}
}

// R4: an answer's words are its own: what is written into them, spare room included, is seen by nobody.
func TestAnswersAreNewMemory(t *testing.T) {
	c := config([]int{0, 0}, queue(0, 1, 16, 4, 0))
	for size := 1; size <= 16; size++ {
		m, b := booted(t, c, 0, 3), bells(t, 2)
		given := list(7, size)
		sending(c, 0, 0, given).through(t, m, b)
		r, other := Receive(c, 0, 0), Receive(c, 0, 0)
		var got, second api.Did
		for range size + 3 {
			got, second = r.Step(m, b, 2), other.Step(m, b, 2)
		}
		want := received(list(7, size)...)
		if !same(got, want) || !same(second, want) {
			t.Fatal(size, got, second)
		}
		before, l := m.Words(), got.Ans.Data
		clear(l[:cap(l)])
		if !same(second, want) || !slices.Equal(m.Words(), before) || !slices.Equal(given, list(7, size)) {
			t.Error(size, second, given)
		}
		if !same(r.Step(m, b, 2), nothing) {
			t.Error("a step behind the answer")
		}
		if got, _ := receiving(c, 0, 0).through(t, m, b); !same(got, want) {
			t.Error(size, got)
		}
	}
}

// P12.1, R5: one that has done no step has looked at nothing: it goes by the memory and the bells that are handed in with each step; the same steps do the same each time, at any tick.
func TestBegunIsNothingDone(t *testing.T) {
	c := short(0)
	s, r := Send(c, 0, 2, []uint32{1, 2}), Receive(c, 0, 0)
	n, o := Count(c, 0, 2, true), Count(c, 0, 0, false)
	for range 2 {
		m, b := held(t, make([]uint32, shortSize)), bells(t, 2)
		for own := range uint32(3) {
			sending(c, 0, own, []uint32{33}).through(t, m, b)
			receiving(c, 0, own).through(t, m, b)
		}
	}
	words := list(50, shortSize)
	words[5], words[14] = 2, 0
	m, b := held(t, words), bells(t, 2)
	does(t, s, m, b, 1, append([]due{loads(refused, 2)}, rests(2)...))
	does(t, n, m, b, 1, []due{loads(counts(2), 2)})
	does(t, o, m, b, 1, []due{loads(counts(2), 0)})
	does(t, r, m, b, 1, []due{loads(nothing, 0), loads(nothing, 0), loads(nothing, 0), loads(nothing, 0), loads(nothing, 0), {14, 1, received(57, 58, 59), 1}})
}

// P12.2: a message's steps are told from the first one on, and no more of them are when it is asked to stop.
func TestMessageStops(t *testing.T) {
	var made []int
	steps := message(5, func(i int) step {
		made = append(made, i)
		return func(*mem.Mem, *bell.Set) api.Did { return api.Did{Buffer: i} }
	})
	for _, most := range []int{1, 3, 5, 9} {
		var got []int
		made = nil
		for s := range steps {
			if got = append(got, s(nil, nil).Buffer); len(got) == most {
				break
			}
		}
		if want := upTo(min(most, 5)); !slices.Equal(got, want) || !slices.Equal(made, want) {
			t.Error(most, got, made)
		}
	}
}
