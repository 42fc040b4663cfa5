package wit

import (
	"iter"
	"slices"
	"testing"

	"porthole/api"
	"porthole/hist"
)

// The calls have the chapter's signatures.
var (
	_ func([]api.Call, []api.Belling) []api.Item               = Order
	_ func([]api.Call, []api.Belling) iter.Seq2[int, api.Item] = All
)

// The document's kinds of items and requests, told anew, so that a wrong one in the package is found.
const (
	isEffect  = 1
	isRing    = 2
	isDeliver = 3

	create  = 1
	normal  = 2
	write   = 3
	read    = 4
	send    = 5
	receive = 6
	status  = 7
	peek    = 8
	poke    = 9
)

// told is an item with its moment.
type told struct{ moment, kind, of int }

// all are what an iterator tells.
func all(it iter.Seq2[int, api.Item]) (l []told) {
	for at, x := range it {
		l = append(l, told{at, x.Kind, x.Of})
	}
	return l
}

// items are what is told, without moments.
func items(l []told) (is []api.Item) {
	for _, x := range l {
		is = append(is, api.Item{Kind: x.kind, Of: x.of})
	}
	return is
}

// tells tells a fault unless All and Order answer that of the calls and the deliveries, once and again.
func tells(t *testing.T, what string, calls []api.Call, bellings []api.Belling, want ...told) {
	t.Helper()
	for range 2 {
		if got := all(All(calls, bellings)); !slices.Equal(got, want) {
			t.Fatalf("%s: %v instead of %v", what, got, want)
		}
		if got := Order(calls, bellings); !slices.Equal(got, items(want)) {
			t.Fatalf("%s: %v instead of %v", what, got, items(want))
		}
	}
}

// sound is likewise, of calls that have to be.
func sound(t *testing.T, what string, calls []api.Call, bellings []api.Belling, want ...told) {
	t.Helper()
	if !hist.Sound(calls...) {
		t.Fatalf("%s: not sound: %+v", what, calls)
	}
	tells(t, what, calls, bellings, want...)
}

// done is a call of a partition, its first one, that is answered, and has no effect yet but a Read's.
func done(op, part, from, to int) api.Call {
	return api.Call{Part: part, Req: api.Request{Op: op}, Done: true, From: from, To: to, T0: 2, T1: 5, Own0: 1, Own1: 9, Mark: -1, Ring: -1, Stamp: -1, Saw: -1}
}

// open is likewise, of one that isn't answered.
func open(op, part, from int) api.Call {
	x := done(op, part, from, -1)
	x.Done, x.T1, x.Own1 = false, -1, -1
	return x
}

func marked(x api.Call, mark int) api.Call {
	x.Mark = mark
	return x
}

func rings(x api.Call, mark, ring int) api.Call {
	x.Mark, x.Ring = mark, ring
	return x
}

func saws(x api.Call, saw int) api.Call {
	x.Saw = saw
	return x
}

// later is the call as it is if its partition did one ahead of it.
func later(x api.Call) api.Call {
	x.T0, x.Own0 = 5, 10
	if x.Done {
		x.T1, x.Own1 = 7, 12
	}
	return x
}

// delivered is a delivery.
func delivered(part, at int, ports ...int) api.Belling {
	return api.Belling{Part: part, Ports: ports, At: at, Tick: 3, Own: 2}
}

func calls(l ...api.Call) []api.Call { return l }

func bellings(l ...api.Belling) []api.Belling { return l }

// The chapter's example.
func TestNone(t *testing.T) {
	sound(t, "no lists", nil, nil)
	sound(t, "empty lists", calls(), bellings())
	sound(t, "no calls", nil, bellings())
	sound(t, "no deliveries", calls(), nil)
	sound(t, "empty calls", []api.Call{}, []api.Belling{})
	if All(nil, nil) == nil || All([]api.Call{}, []api.Belling{}) == nil {
		t.Error("no iterator")
	}
	if l := Order(nil, nil); len(l) != 0 {
		t.Error(l)
	}
}

// P19.1: of a call that has a Mark its Effect at it, whatever it asks for, and whether it is answered or not.
func TestEffectAtItsMark(t *testing.T) {
	for op := create; op <= poke; op++ {
		for _, mark := range []int{4, 5, 8, 9} {
			want := told{mark, isEffect, 0}
			sound(t, "one", calls(marked(done(op, 0, 4, 9), mark)), nil, want)
			sound(t, "one under way", calls(marked(open(op, 3, 4), mark)), nil, want)
			sound(t, "one whose place isn't the first one", calls(open(peek, 1, 2), marked(done(op, 0, 4, 9), mark)), nil, told{mark, isEffect, 1})
		}
		sound(t, "at moment 0", calls(marked(done(op, 0, 0, 9), 0)), nil, told{0, isEffect, 0})
		sound(t, "begun and answered with one step", calls(marked(done(op, 0, 0, 0), 0)), nil, told{0, isEffect, 0})
		sound(t, "far off", calls(marked(done(op, 0, 4, 1<<40), 1<<40)), nil, told{1 << 40, isEffect, 0})
	}
}

// P19.1: what is answered, and what else is asked for, makes no difference.
func TestWhateverIsAnswered(t *testing.T) {
	for _, code := range []api.Errno{0, 1, 2, 3, 4, 5, 6} {
		x := rings(done(send, 0, 4, 9), 6, 8)
		x.Ans = api.Answer{Code: code, Data: []uint32{1, 2}, Valid: true, Count: 5}
		x.Req.Port, x.Req.Addr, x.Req.Data, x.Stamp = 77, 5, []uint32{9}, 3
		sound(t, "a Send", calls(x), nil, told{6, isEffect, 0}, told{8, isRing, 0})
		x = done(read, 0, 4, 9)
		x.Ans = api.Answer{Code: code}
		sound(t, "a Read", calls(x), nil, told{4, isEffect, 0})
	}
}

// P19.1: a call that has no place has no Effect: without a Mark any but a Read that is answered.
func TestWithoutAPlace(t *testing.T) {
	for op := -1; op <= 11; op++ {
		if op != read {
			sound(t, "an answered one", calls(done(op, 0, 4, 9)), nil)
		}
		sound(t, "one under way", calls(open(op, 0, 4)), nil)
		w := marked(done(write, 1, 1, 8), 6)
		sound(t, "one under way that Saw a Write", calls(w, saws(open(op, 0, 4), 0)), nil, told{6, isEffect, 0})
		sound(t, "beside others", calls(marked(open(poke, 2, 0), 3), open(op, 0, 4), marked(open(poke, 3, 5), 5)), nil, told{3, isEffect, 0}, told{5, isEffect, 2})
	}
}

// P19.1: a Read's Effect comes right behind the greater one of its From and of the Mark of the call that it Saw.
func TestEffectOfARead(t *testing.T) {
	sound(t, "that Saw none", calls(done(read, 0, 4, 9)), nil, told{4, isEffect, 0})
	sound(t, "from moment 0 on", calls(done(read, 0, 0, 9)), nil, told{0, isEffect, 0})
	for _, mark := range []int{2, 3, 4, 5, 9} {
		w := marked(done(write, 1, 2, 20), mark)
		r := saws(done(read, 0, 4, 9), 0)
		// The Write's own Effect isn't right behind its Mark, so it is ahead.
		sound(t, "that Saw a Write", calls(w, r), nil, told{mark, isEffect, 0}, told{max(mark, 4), isEffect, 1})
	}
	// A Write that has begun behind the Read, and stands behind it.
	r, w := saws(done(read, 0, 2, 9), 1), marked(done(write, 1, 4, 20), 7)
	sound(t, "that Saw one behind it", calls(r, w), nil, told{7, isEffect, 1}, told{7, isEffect, 0})
	// A Read with a Mark isn't behind anything.
	r = marked(saws(done(read, 0, 2, 9), 1), 7)
	sound(t, "that has a Mark", calls(r, w), nil, told{7, isEffect, 0}, told{7, isEffect, 1})
	// Its own From, at which other things are.
	sound(t, "with a Mark at its From", calls(marked(done(poke, 1, 2, 9), 4), done(read, 0, 4, 9)), nil, told{4, isEffect, 0}, told{4, isEffect, 1})
	sound(t, "with a Mark at its From, told ahead", calls(done(read, 0, 4, 9), marked(done(poke, 1, 5, 9), 5)), bellings(delivered(0, 4, 1), delivered(1, 5, 3)),
		told{4, isDeliver, 0}, told{4, isEffect, 0}, told{5, isEffect, 1}, told{5, isDeliver, 1})
	// The one began ahead of the Mark of the Write that both Saw, the other one behind it.
	sound(t, "two of one port", calls(marked(done(write, 1, 1, 20), 6), saws(done(read, 0, 4, 7), 0), later(saws(done(read, 0, 8, 12), 0))), nil,
		told{6, isEffect, 0}, told{6, isEffect, 1}, told{8, isEffect, 2})
}

// P19.1: a call whose Ring is 0 or more has its Ring at that moment; one whose Ring is -1 has none.
func TestRings(t *testing.T) {
	for _, op := range []int{send, write, receive, 77} {
		sound(t, "no Ring", calls(rings(done(op, 0, 4, 9), 6, -1)), nil, told{6, isEffect, 0})
		for _, ring := range []int{7, 8, 9} {
			sound(t, "a Ring", calls(rings(done(op, 0, 4, 9), 6, ring)), nil, told{6, isEffect, 0}, told{ring, isRing, 0})
			sound(t, "a Ring of one under way", calls(rings(open(op, 0, 4), 6, ring)), nil, told{6, isEffect, 0}, told{ring, isRing, 0})
			sound(t, "behind another one", calls(open(op, 1, 3), rings(open(op, 0, 4), 6, ring)), nil, told{6, isEffect, 1}, told{ring, isRing, 1})
		}
		sound(t, "marked at 0", calls(rings(done(op, 0, 0, 9), 0, 1)), nil, told{0, isEffect, 0}, told{1, isRing, 0})
		// No sound call rings at 0; the chapter's words ask for it all the same.
		tells(t, "Ring 0", calls(rings(done(op, 0, 0, 9), -1, 0)), nil, told{0, isRing, 0})
		tells(t, "Mark 0, Ring 0", calls(rings(done(op, 0, 0, 9), 0, 0)), nil, told{0, isEffect, 0}, told{0, isRing, 0})
		tells(t, "a Ring without a Mark", calls(rings(open(op, 0, 0), -1, 5)), nil, told{5, isRing, 0})
		for _, ring := range []int{-2, -9} {
			tells(t, "below 0", calls(rings(done(op, 0, 0, 9), 3, ring)), nil, told{3, isEffect, 0})
		}
	}
	tells(t, "of a Read right behind its From", calls(rings(done(read, 0, 4, 9), -1, 4)), nil, told{4, isRing, 0}, told{4, isEffect, 0})
}

// P19.1: of a delivery its Deliver at its At, whosever it is, and whatever was delivered.
func TestDeliveries(t *testing.T) {
	for _, at := range []int{0, 1, 7, 1 << 40} {
		sound(t, "one", nil, bellings(delivered(0, at, 1)), told{at, isDeliver, 0})
		sound(t, "without ports", nil, bellings(api.Belling{At: at}), told{at, isDeliver, 0})
		sound(t, "with other numbers", nil, bellings(api.Belling{Part: 5, Ports: []int{1, 3, 5}, At: at, Tick: 99, Own: 77}), told{at, isDeliver, 0})
		sound(t, "two at a moment", nil, bellings(delivered(1, at, 1), delivered(0, at, 3)), told{at, isDeliver, 0}, told{at, isDeliver, 1})
	}
	sound(t, "in order", nil, bellings(delivered(0, 2, 1), delivered(0, 5, 1), delivered(1, 9, 3)), told{2, isDeliver, 0}, told{5, isDeliver, 1}, told{9, isDeliver, 2})
	sound(t, "out of order", nil, bellings(delivered(0, 9, 1), delivered(0, 5, 1), delivered(1, 2, 3), delivered(2, 5, 5)),
		told{2, isDeliver, 2}, told{5, isDeliver, 1}, told{5, isDeliver, 3}, told{9, isDeliver, 0})
}

// several are sound calls of four partitions, and deliveries, neither told in the order in which things have been.
func several() ([]api.Call, []api.Belling, []told) {
	return calls(
			marked(done(create, 2, 0, 0), 0),           // 0
			done(normal, 3, 1, 1),                      // 1: refused
			marked(done(write, 0, 2, 30), 24),          // 2
			saws(done(read, 1, 3, 28), 2),              // 3: behind the Write
			later(rings(done(send, 2, 4, 25), 20, 24)), // 4
			later(marked(done(poke, 3, 5, 6), 6)),      // 5
			func() api.Call { // 6: a Read that finds nothing
				x := later(done(read, 3, 9, 12))
				x.T0, x.T1, x.Own0, x.Own1 = 7, 8, 13, 17
				return x
			}(),
			later(open(read, 1, 29)), // 7
		),
		bellings(delivered(1, 24, 1), delivered(3, 9, 5, 7), delivered(0, 24, 9), delivered(1, 6, 1), delivered(2, 31, 3)),
		[]told{
			{0, isEffect, 0}, {6, isEffect, 5}, {6, isDeliver, 3}, {9, isDeliver, 1}, {9, isEffect, 6}, {20, isEffect, 4},
			{24, isEffect, 2}, {24, isRing, 4}, {24, isDeliver, 0}, {24, isDeliver, 2}, {24, isEffect, 3}, {31, isDeliver, 4},
		}
}

// P19.1: calls and deliveries of several partitions, told out of order.
func TestSeveralPartitions(t *testing.T) {
	l, b, want := several()
	sound(t, "several", l, b, want...)
	// Each list alone.
	isDelivery := func(x told) bool { return x.kind == isDeliver }
	sound(t, "calls alone", l, nil, slices.DeleteFunc(slices.Clone(want), isDelivery)...)
	sound(t, "deliveries alone", nil, b, slices.DeleteFunc(slices.Clone(want), func(x told) bool { return !isDelivery(x) })...)
}

// permutations are all orders of the numbers below n.
func permutations(n int) [][]int {
	if n == 0 {
		return [][]int{nil}
	}
	var l [][]int
	for _, x := range permutations(n - 1) {
		for at := range n {
			l = append(l, slices.Insert(slices.Clone(x), at, n-1))
		}
	}
	return l
}

// P19.1: at one moment, in whatever order the calls are handed in: effects that aren't right behind it, rings, deliveries, effects that are right behind it.
func TestOneMoment(t *testing.T) {
	const moment = 20
	seen := 0
	for _, order := range permutations(4) {
		// At the moment are: 0: a Write's Mark, 1: a Send's Ring, 2: what a Read comes behind, 3: a Mark of any other one.
		var l []api.Call
		for from, what := range order {
			switch what {
			case 0:
				l = append(l, marked(done(write, from, from, 30), moment))
			case 1:
				l = append(l, rings(open(send, from, from), 5+from, moment))
			case 2:
				l = append(l, saws(done(read, from, from, 30), slices.Index(order, 0)))
			case 3:
				l = append(l, marked(open(receive, from, from), moment))
			}
		}
		at := func(what int) int { return slices.Index(order, what) }
		for n := range 3 {
			var b []api.Belling
			want := []told{{5 + at(1), isEffect, at(1)}, {moment, isEffect, min(at(0), at(3))}, {moment, isEffect, max(at(0), at(3))}, {moment, isRing, at(1)}}
			for i := range n {
				b = append(b, delivered(9-i, moment, 1))
				want = append(want, told{moment, isDeliver, i})
			}
			sound(t, "at one moment", l, b, append(want, told{moment, isEffect, at(2)})...)
			seen++
		}
	}
	if seen != 72 {
		t.Error(seen)
	}
	// A Read that has begun at the moment.
	x := done(read, 2, moment, 30)
	sound(t, "begun at it", calls(marked(done(poke, 0, 1, 30), moment), rings(done(send, 1, 2, 30), 9, moment), x), bellings(delivered(0, moment, 1)),
		told{9, isEffect, 1}, told{moment, isEffect, 0}, told{moment, isRing, 1}, told{moment, isDeliver, 0}, told{moment, isEffect, 2})
	// Ranks count at one moment alone: a late effect comes ahead of what is of the next moment.
	sound(t, "the next moment", calls(done(read, 0, moment, 30), marked(done(poke, 1, moment+1, 30), moment+1)), bellings(delivered(0, moment+1, 1), delivered(0, moment-1, 1)),
		told{moment - 1, isDeliver, 1}, told{moment, isEffect, 0}, told{moment + 1, isEffect, 1}, told{moment + 1, isDeliver, 0})
}

// P19.1: of several alike at one moment the one ahead in its list comes first, however many there are.
func TestAlikeAtOneMoment(t *testing.T) {
	for _, n := range []int{2, 3, 12, 13, 40, 200} {
		moment := 10 * n
		var l []api.Call
		var b []api.Belling
		var early, marks, ringing, deliveries, late []told
		for i := range n {
			at := 4 * i
			l = append(l,
				marked(done(write, at, at, 20*n), moment),
				// Effects at moments that fall: the Ring of the one whose effect was first comes last.
				rings(open(send, at+1, at+1), moment-1-i, moment),
				saws(done(read, at+2, at+2, 20*n), at),
				done(status, at+3, at+3, 20*n),
			)
			b = append(b, delivered(n-i, moment, i))
			early = append(early, told{moment - 1 - i, isEffect, at + 1})
			marks = append(marks, told{moment, isEffect, at})
			ringing = append(ringing, told{moment, isRing, at + 1})
			deliveries = append(deliveries, told{moment, isDeliver, i})
			late = append(late, told{moment, isEffect, at + 2})
		}
		slices.Reverse(early)
		sound(t, "alike", l, b, slices.Concat(early, marks, ringing, deliveries, late)...)
	}
}

// P19.1, R6: All stops when it is asked to, behind each item, and can be gone through again, and within itself, from its beginning on each time.
func TestGoingThrough(t *testing.T) {
	l, b, want := several()
	it := All(l, b)
	if !slices.Equal(all(it), want) {
		t.Fatal(all(it))
	}
	for most := 1; most <= len(want)+1; most++ {
		for range 2 {
			var got []told
			for at, x := range it {
				if got = append(got, told{at, x.Kind, x.Of}); len(got) == most {
					break
				}
			}
			if !slices.Equal(got, want[:min(most, len(want))]) {
				t.Fatalf("%d: %v", most, got)
			}
		}
		// By hand: it isn't asked any further once it is told to stop.
		asked := 0
		it(func(int, api.Item) bool {
			asked++
			return asked < most
		})
		if asked != min(most, len(want)) {
			t.Fatal(most, asked)
		}
	}
	var outer []told
	for at, x := range it {
		if !slices.Equal(all(it), want) {
			t.Fatal(all(it))
		}
		outer = append(outer, told{at, x.Kind, x.Of})
	}
	if !slices.Equal(outer, want) {
		t.Fatal(outer)
	}
	for range All(nil, nil) {
		t.Error("of none")
	}
}

// dicer rolls numbers from 0 on, below n: the same ones in each run.
type dicer func(n int) int

func dice() dicer {
	state := uint64(19)
	return func(n int) int {
		state = state*6364136223846793005 + 1442695040888963407
		return int(state >> 33 % uint64(n))
	}
}

// rolled are any sound calls, each of a partition of its own, and any deliveries, so close to each other that many are of one moment.
func rolled(roll dicer) (l []api.Call, b []api.Belling) {
	n := roll(30)
	end := 3*n + 2
	for i := range n {
		x := open([]int{write, read, read, send, roll(11)}[roll(5)], i, 2*i+roll(2))
		if roll(3) > 0 {
			x = done(x.Req.Op, i, x.From, end)
		}
		if x.Req.Op != read || roll(4) == 0 {
			x.Mark = min(end-1, x.From+roll(2*n))
			x.Ring = []int{-1, x.Mark + 1 + roll(end-x.Mark)}[roll(2)]
		}
		l = append(l, x)
	}
	for i := range l {
		if k := roll(n); roll(2) == 0 && l[k].Req.Op == write && l[k].Mark >= 0 {
			l[i].Saw = k
		}
	}
	for range roll(20) {
		b = append(b, delivered(roll(6), roll(end), roll(9)))
	}
	return l, b
}

// anew are the items in order by the chapter's words: moment by moment, rank by rank, list by list.
func anew(l []api.Call, b []api.Belling, last int) (want []told) {
	for moment := range last + 1 {
		for i, x := range l {
			if x.Mark == moment {
				want = append(want, told{moment, isEffect, i})
			}
		}
		for i, x := range l {
			if x.Ring == moment {
				want = append(want, told{moment, isRing, i})
			}
		}
		for i, x := range b {
			if x.At == moment {
				want = append(want, told{moment, isDeliver, i})
			}
		}
		for i, x := range l {
			behind := x.From
			if x.Saw >= 0 {
				behind = max(behind, l[x.Saw].Mark)
			}
			if x.Mark < 0 && x.Done && x.Req.Op == read && behind == moment {
				want = append(want, told{moment, isEffect, i})
			}
		}
	}
	return want
}

// P19.1: any sound calls and deliveries.
func TestAnyInOrder(t *testing.T) {
	roll := dice()
	count := map[told]int{} // of each two kinds that came side by side at one moment
	for range 2000 {
		l, b := rolled(roll)
		want := anew(l, b, 200)
		sound(t, "any", l, b, want...)
		for i := 1; i < len(want); i++ {
			if x, y := want[i-1], want[i]; x.moment == y.moment {
				count[told{kind: x.kind, of: y.kind}]++
			}
		}
	}
	for _, x := range []told{{0, 1, 1}, {0, 1, 2}, {0, 1, 3}, {0, 2, 2}, {0, 2, 3}, {0, 3, 3}, {0, 3, 1}, {0, 2, 1}} {
		if count[x] < 100 {
			t.Error(x, count)
		}
	}
}
