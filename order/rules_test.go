package order

import (
	"math"
	"reflect"
	"slices"
	"testing"

	"porthole/api"
)

// far are numbers far from all that may be; some of them are -1, 0 or 1 once they are cut short, or wrap round.
var far = []int{-3, -100, math.MinInt8, math.MinInt32, -1 << 32, -1<<32 - 1, -1 << 62, math.MinInt, math.MinInt + 1, 1000, math.MaxInt32, math.MaxInt32 + 1, 1<<32 - 1, 1 << 32, 1<<32 + 1, 1 << 62, math.MaxInt - 1, math.MaxInt}

// odd are calls and deliveries of any numbers, most of them not sound; but Stamp and T1 are -1 to 2^40.
func odd(roll dicer) (l []api.Call, b []api.Belling) {
	numbers := append([]int{-2, -1, 0, 1, 2, 3, 4, 5}, far...)
	any := func() int { return numbers[roll(len(numbers))] }
	ticks := func() int { return []int{-1, 0, 1, 5, 1 << 20, 1 << 40}[roll(6)] }
	for range roll(6) {
		r := api.Request{Op: []int{any(), 1 + roll(9)}[roll(2)], Port: []int{any(), roll(4)}[roll(2)], Addr: uint64(any()), Data: make([]uint32, roll(3))}
		ans := api.Answer{Code: api.Errno(any()), Data: make([]uint32, roll(3)), Valid: roll(2) == 0, Count: any()}
		x := api.Call{Part: []int{any(), roll(2)}[roll(2)], Req: r, Ans: ans, Done: roll(2) == 0, From: any(), To: any(), T0: any(), T1: ticks(), Own0: any(), Own1: any(), Mark: any(), Ring: any(), Stamp: ticks(), Saw: any()}
		if roll(2) == 0 {
			x.Ans = api.Answer{Code: api.Errno(roll(7))}
		}
		l = append(l, x)
	}
	for range roll(6) {
		b = append(b, api.Belling{Part: any(), Ports: []int{any(), any()}[:roll(3)], At: any(), Tick: any(), Own: any()})
	}
	return l, b
}

// R1: whatever the numbers are: all three end, and none panics; Valid is what the chapter's words say.
func TestAnything(t *testing.T) {
	roll := dice()
	c := between(sample(0, 1, 2, 3), queue(1, 0, 1, 2))
	yes := 0
	for range 20000 {
		l, b := odd(roll)
		some := append(someItems(l, b), farItems()...)
		order := shuffled(roll, dueItems(l, b))
		if roll(3) == 0 {
			order = append(order, some[roll(len(some))])
		}
		want := couldHaveBeen(c, l, b, order)
		if Valid(c, l, b, order...) != want {
			t.Fatalf("%v: %v, of %+v and %+v", order, !want, l, b)
		}
		if want && len(order) > 0 {
			yes++
		}
		for range 9 {
			x, y := some[roll(len(some))], some[roll(len(some))]
			if want := isAhead(l, b, x, y); Ahead(l, b, x, y) != want {
				t.Fatalf("%v and %v: %v, of %+v and %+v", x, y, !want, l, b)
			}
			if _, want := stretchOf(l, b, x); Is(l, b, x) != want {
				t.Fatalf("%v: %v, of %+v and %+v", x, !want, l, b)
			}
		}
	}
	if yes < 100 {
		t.Error(yes)
	}
}

// R1: many items, each of one moment with the next one's, and answered in no time worth the name.
func TestMany(t *testing.T) {
	c := between()
	var l []api.Call
	var b []api.Belling
	var order []api.Item
	const n = 30000
	for i := range n {
		l = append(l, done(0, 2*i, 2*i+2, api.Request{Op: poke, Addr: 1, Data: []uint32{uint32(i)}}))
		b = append(b, delivered(1, 2*i+1))
		order = append(order, effect(i), deliver(i))
	}
	if !Valid(c, l, b, order...) {
		t.Error("in order")
	}
	for _, i := range []int{0, n, 2*n - 4} {
		// An Effect and the one behind it touch; the one behind that doesn't.
		if !Valid(c, l, b, swapped(order, i, i+1)...) || Valid(c, l, b, swapped(order, i, i+3)...) {
			t.Error("at", i)
		}
	}
	if Valid(c, l, b, swapped(order, 0, 2*n-2)...) || Valid(c, l, b, order[:2*n-1]...) || Valid(c, l, b, order[1:]...) {
		t.Error("not in order")
	}
}

// R3: nil lists and empty ones are one, those within calls and deliveries too.
func TestNoneAndEmpty(t *testing.T) {
	c := between(queue(0, 1, 1, 1))
	nones, empties := calls(done(0, 0, 0, asks(create, 0)), done(0, 1, 1, asks(normal, 0))), calls(done(0, 0, 0, asks(create, 0)), done(0, 1, 1, asks(normal, 0)))
	for i := range empties {
		nones[i].Req.Data, nones[i].Ans.Data = nil, nil
		empties[i].Req.Data, empties[i].Ans.Data = []uint32{}, []uint32{}
	}
	for _, l := range [][]api.Call{nones, empties} {
		for _, ports := range [][]int{nil, {}} {
			b := []api.Belling{{Part: 1, Ports: ports, At: 5}, {Part: 9, Ports: ports, At: 5}}
			valid(t, "without lists", true, c, l, b, effect(0), effect(1), deliver(0), deliver(1))
		}
		for _, b := range [][]api.Belling{nil, {}} {
			valid(t, "without deliveries", true, c, l, b, effect(0), effect(1))
			is(t, "without deliveries", l, b, effect(1), true)
			is(t, "without deliveries", l, b, deliver(0), false)
			ahead(t, "without deliveries", l, b, effect(0), effect(1), true)
		}
	}
	for _, l := range [][]api.Call{nil, {}} {
		b := bellings(delivered(1, 5))
		valid(t, "without calls", true, c, l, b, deliver(0))
		is(t, "without calls", l, b, deliver(0), true)
		is(t, "without calls", l, b, effect(0), false)
	}
}

// room is a list with marked spare room behind it.
func room[T any](l []T, mark T) []T { return append(slices.Clone(l), mark, mark)[: len(l) : len(l)+2] }

// over writes over a list, spare room included.
func over[T any](l []T, x T) {
	l = l[:cap(l)]
	for i := range l {
		l[i] = x
	}
}

// handed is all that is handed in.
type handed struct {
	config   api.Config
	calls    []api.Call
	bellings []api.Belling
	order    []api.Item
}

// roomy are the same arguments, each list with marked spare room.
func roomy(x handed) handed {
	x.config.Parts = room(x.config.Parts, api.Part{Core: 9})
	x.config.Chans = room(x.config.Chans, api.Chan{Kind: 9})
	for i := range x.config.Frames {
		x.config.Frames[i].Windows = room(x.config.Frames[i].Windows, api.Window{Part: 9})
	}
	x.calls = room(x.calls, done(9, 90, 99, asks(poke, 9)))
	for i := range x.calls {
		x.calls[i].Req.Data, x.calls[i].Ans.Data = room(x.calls[i].Req.Data, 981), room(x.calls[i].Ans.Data, 982)
	}
	x.bellings = room(x.bellings, delivered(9, 97, 9))
	for i := range x.bellings {
		x.bellings[i].Ports = room(x.bellings[i].Ports, 983)
	}
	x.order = room(x.order, api.Item{Kind: 984})
	return x
}

// wholeOf is the list with its spare room, as one of its own.
func wholeOf[T any](l []T) []T { return slices.Clone(l[:cap(l)]) }

// everything is all that roomy arguments have, spare room included, told apart from them.
func everything(x handed) []any {
	has := []any{x.config.Frames[0].Length, x.config.Frames[1].Length}
	has = append(has, wholeOf(x.config.Parts), wholeOf(x.config.Chans), wholeOf(x.config.Frames[0].Windows), wholeOf(x.config.Frames[1].Windows), wholeOf(x.order))
	for i, y := range x.calls[:cap(x.calls)] {
		if i < len(x.calls) {
			has = append(has, len(y.Req.Data), wholeOf(y.Req.Data), len(y.Ans.Data), wholeOf(y.Ans.Data))
			y.Req.Data, y.Ans.Data = nil, nil
		}
		has = append(has, y)
	}
	for i, y := range x.bellings[:cap(x.bellings)] {
		if i < len(x.bellings) {
			has = append(has, len(y.Ports), wholeOf(y.Ports))
			y.Ports = nil
		}
		has = append(has, y)
	}
	return has
}

// wasted writes over all that roomy arguments have, spare room included.
func wasted(x handed) {
	for _, y := range x.calls {
		over(y.Req.Data, 991)
		over(y.Ans.Data, 992)
	}
	for _, y := range x.bellings {
		over(y.Ports, 993)
	}
	over(x.config.Parts, api.Part{Core: 7})
	over(x.config.Chans, api.Chan{Kind: 7})
	over(x.config.Frames[0].Windows, api.Window{Part: 7})
	over(x.config.Frames[1].Windows, api.Window{Part: 7})
	over(x.calls, open(7, 7, asks(7, 7)))
	over(x.bellings, delivered(7, 7))
	over(x.order, api.Item{Kind: 7, Of: 7})
}

// several are arguments of an order that could have been, with all that a call may store.
func several() handed {
	c, l, b, order := refusedMarked()
	return handed{c, l, b, order}
}

// R4: what is handed in isn't changed, spare room included.
func TestHandedInIsntChanged(t *testing.T) {
	roll := dice()
	for i := range 500 {
		x := several()
		switch roll(3) {
		case 0:
			x.order = shuffled(roll, x.order)
		case 1:
			x.calls, x.bellings = odd(roll)
			x.order = dueItems(x.calls, x.bellings)
		}
		x = roomy(x)
		before := everything(x)
		got := Valid(x.config, x.calls, x.bellings, x.order...)
		for _, y := range someItems(x.calls, x.bellings) {
			Is(x.calls, x.bellings, y)
			Ahead(x.calls, x.bellings, y, effect(0))
			Ahead(x.calls, x.bellings, effect(0), y)
		}
		if after := everything(x); !reflect.DeepEqual(after, before) {
			t.Fatalf("%d: %v instead of %v", i, after, before)
		}
		if again := Valid(x.config, x.calls, x.bellings, x.order...); again != got {
			t.Fatalf("%d: %v, then %v, of %+v", i, got, again, x)
		}
	}
}

// R4, R5: nothing is kept: what is written into what was handed in makes no difference, and what is answered hangs on the arguments alone, not on what was asked ahead.
func TestNothingIsKept(t *testing.T) {
	roll := dice()
	for range 200 {
		x := roomy(several())
		if !Valid(x.config, x.calls, x.bellings, x.order...) {
			t.Fatalf("%+v", x)
		}
		isOne, isFirst := Is(x.calls, x.bellings, effect(4)), Ahead(x.calls, x.bellings, effect(4), ring(4))
		wasted(x)
		if !isOne || !isFirst {
			t.Fatal(isOne, isFirst)
		}
		l, b := odd(roll)
		order := dueItems(l, b)
		want := couldHaveBeen(between(), l, b, order)
		valid(t, "odd", want, between(), l, b, order...)
		y := several()
		valid(t, "several", true, y.config, y.calls, y.bellings, y.order...)
		is(t, "several", y.calls, y.bellings, effect(4), true)
		ahead(t, "several", y.calls, y.bellings, effect(4), ring(4), true)
		ahead(t, "several", y.calls, y.bellings, ring(4), effect(4), false)
		valid(t, "several, the other way round", false, y.config, y.calls, y.bellings, shifted(y.order)...)
	}
}

// shifted is the same order, its first item behind all others.
func shifted(l []api.Item) []api.Item { return append(slices.Clone(l[1:]), l[0]) }
