package order

import (
	"math"
	"slices"
	"testing"

	"porthole/api"
	"porthole/hist"
)

// The calls have the chapter's signatures.
var (
	_ func([]api.Call, []api.Belling, api.Item) bool                = Is
	_ func([]api.Call, []api.Belling, api.Item, api.Item) bool      = Ahead
	_ func(api.Config, []api.Call, []api.Belling, ...api.Item) bool = Valid
)

// The document's kinds of items and channels, codes, requests and acts, told anew, so that a wrong one in the package is found.
const (
	isEffect  = 1
	isRing    = 2
	isDeliver = 3

	sampling = 1
	queuing  = 2

	ok           = 0
	noAction     = 1
	notAvailable = 2
	invalidParam = 3
	invalidMode  = 5
	accessFault  = 6

	create  = 1
	normal  = 2
	write   = 3
	read    = 4
	send    = 5
	receive = 6
	status  = 7
	peek    = 8
	poke    = 9

	pick0 = 0
	pick1 = 1
	tick  = 2
)

func effect(i int) api.Item  { return api.Item{Kind: isEffect, Of: i} }
func ring(i int) api.Item    { return api.Item{Kind: isRing, Of: i} }
func deliver(i int) api.Item { return api.Item{Kind: isDeliver, Of: i} }

// effects are those of calls, by their places.
func effects(l ...int) (is []api.Item) {
	for _, i := range l {
		is = append(is, effect(i))
	}
	return is
}

func asks(op, port int, data ...uint32) api.Request {
	return api.Request{Op: op, Port: port, Data: data}
}

// done is a call that is answered OK, and has no Mark.
func done(part, from, to int, r api.Request) api.Call {
	return api.Call{Part: part, Req: r, Done: true, From: from, To: to, T0: 2, T1: 5, Own0: 1, Own1: 9, Mark: -1, Ring: -1, Stamp: -1, Saw: -1}
}

// open is likewise, of one that isn't answered.
func open(part, from int, r api.Request) api.Call {
	x := done(part, from, -1, r)
	x.Done, x.T1, x.Own1 = false, -1, -1
	return x
}

func marked(x api.Call, mark int) api.Call {
	x.Mark = mark
	return x
}

func rings(x api.Call, ring int) api.Call {
	x.Ring = ring
	return x
}

func answered(x api.Call, a api.Answer) api.Call {
	x.Ans = a
	return x
}

func delivered(part, at int, ports ...int) api.Belling {
	return api.Belling{Part: part, Ports: ports, At: at, Tick: 3, Own: 2}
}

func calls(l ...api.Call) []api.Call          { return l }
func bellings(l ...api.Belling) []api.Belling { return l }

// between are two partitions, one a core, whose windows are open always, and channels from 0 to 1 or from 1 to 0.
func between(chans ...api.Chan) api.Config {
	return api.Config{
		Parts: []api.Part{{Core: 0, Private: 2}, {Core: 1, Private: 3}},
		Chans: chans,
		Frames: [2]api.Frame{
			{Length: 1, Windows: []api.Window{{Part: 0, Start: 0, Len: 1}}},
			{Length: 1, Windows: []api.Window{{Part: 1, Start: 0, Len: 1}}},
		},
	}
}

func sample(from, to, words, period int) api.Chan {
	return api.Chan{Kind: sampling, From: from, To: to, Words: words, Period: period}
}

func queue(from, to, words, depth int) api.Chan {
	return api.Chan{Kind: queuing, From: from, To: to, Words: words, Depth: depth, Boot: 9}
}

// is tells a fault unless Is answers that, once and again.
func is(t *testing.T, what string, l []api.Call, b []api.Belling, x api.Item, want bool) {
	t.Helper()
	for range 2 {
		if got := Is(l, b, x); got != want {
			t.Fatalf("%s: %v: %v instead of %v, of %+v and %+v", what, x, got, want, l, b)
		}
	}
}

// ahead is likewise of Ahead.
func ahead(t *testing.T, what string, l []api.Call, b []api.Belling, x, y api.Item, want bool) {
	t.Helper()
	for range 2 {
		if got := Ahead(l, b, x, y); got != want {
			t.Fatalf("%s: %v and %v: %v instead of %v, of %+v and %+v", what, x, y, got, want, l, b)
		}
	}
}

// valid is likewise of Valid.
func valid(t *testing.T, what string, want bool, c api.Config, l []api.Call, b []api.Belling, order ...api.Item) {
	t.Helper()
	for range 2 {
		if got := Valid(c, l, b, order...); got != want {
			t.Fatalf("%s: %v: %v instead of %v, of %+v and %+v", what, order, got, want, l, b)
		}
	}
}

// The chapter's example.
func TestNone(t *testing.T) {
	for _, c := range []api.Config{between(), between(queue(0, 1, 1, 1)), between(sample(1, 0, 2, 3))} {
		valid(t, "no lists", true, c, nil, nil)
		valid(t, "empty lists", true, c, calls(), bellings(), []api.Item{}...)
		valid(t, "empty calls", true, c, []api.Call{}, nil)
		valid(t, "empty deliveries", true, c, nil, []api.Belling{})
		for _, x := range []api.Item{{}, effect(0), ring(0), deliver(0), effect(-1), {Kind: 4}} {
			is(t, "of none", nil, nil, x, false)
			ahead(t, "of none", nil, nil, x, x, false)
			ahead(t, "of none", nil, nil, effect(0), x, false)
			valid(t, "of none", false, c, nil, nil, x)
		}
	}
}

// P20.1: the Effect of a call that is Done is one, and so is that of one whose Mark is 0 or more; of one that is neither it isn't.
func TestIsAnEffect(t *testing.T) {
	for op := -1; op <= 11; op++ {
		r := asks(op, 0, 7)
		for _, mark := range []int{-1, -2, -100, math.MinInt} {
			is(t, "Done, without a Mark", calls(marked(done(0, 4, 9, r), mark)), nil, effect(0), true)
			is(t, "neither", calls(marked(open(0, 4, r), mark)), nil, effect(0), false)
			is(t, "neither, though it rang", calls(rings(marked(open(0, 4, r), mark), 5)), nil, effect(0), false)
		}
		for _, mark := range []int{0, 1, 4, 9, 1 << 40, math.MaxInt} {
			is(t, "Done, with a Mark", calls(marked(done(0, 0, 9, r), mark)), nil, effect(0), true)
			is(t, "a Mark alone", calls(marked(open(0, 0, r), mark)), nil, effect(0), true)
		}
		for _, code := range []api.Errno{ok, noAction, notAvailable, invalidParam, invalidMode, accessFault} {
			is(t, "whatever is answered", calls(answered(done(5, 0, 0, r), api.Answer{Code: code})), nil, effect(0), true)
			is(t, "an answer of one that isn't Done", calls(answered(open(5, 0, r), api.Answer{Code: code})), nil, effect(0), false)
		}
	}
	is(t, "the zero call", make([]api.Call, 1), nil, effect(0), true) // its Mark is 0
	is(t, "at moment 0", calls(done(0, 0, 0, asks(normal, 0))), nil, effect(0), true)
}

// P20.1: the Ring of a call whose Ring is 0 or more is one; of any other one it isn't.
func TestIsARing(t *testing.T) {
	for _, op := range []int{send, write, peek, 0, 12} {
		for _, x := range []api.Call{done(0, 4, 9, asks(op, 0)), open(0, 4, asks(op, 0)), marked(done(0, 4, 9, asks(op, 0)), 6), marked(open(0, 0, asks(op, 0)), 0)} {
			for _, at := range []int{0, 1, 7, 1 << 40, math.MaxInt} {
				is(t, "a Ring", calls(rings(x, at)), nil, ring(0), true)
			}
			for _, at := range []int{-1, -2, -100, math.MinInt} {
				is(t, "no Ring", calls(rings(x, at)), nil, ring(0), false)
			}
		}
	}
}

// P20.1: the Deliver of a delivery is one, whatever it delivered, and when.
func TestIsADeliver(t *testing.T) {
	for _, at := range []int{0, 1, 1 << 40, -1, math.MinInt} {
		is(t, "a delivery", nil, bellings(delivered(0, at, 1)), deliver(0), true)
		is(t, "one of nothing", nil, bellings(delivered(-5, at)), deliver(0), true)
	}
	is(t, "the zero delivery", nil, make([]api.Belling, 1), deliver(0), true)
}

// P20.1: an item goes by its place in its own list; of a place that there isn't it isn't one.
func TestIsByItsPlace(t *testing.T) {
	l := calls(done(0, 0, 9, asks(peek, 0)), open(1, 1, asks(peek, 0)), rings(open(2, 2, asks(send, 0)), 5), rings(marked(open(3, 3, asks(send, 0)), 4), 5))
	b := bellings(delivered(0, 5, 1), delivered(1, 6, 3))
	for i := -1; i <= 6; i++ {
		is(t, "an Effect", l, b, effect(i), i == 0 || i == 3)
		is(t, "a Ring", l, b, ring(i), i == 2 || i == 3)
		is(t, "a Deliver", l, b, deliver(i), i == 0 || i == 1)
		is(t, "a Deliver without deliveries", l, nil, deliver(i), false)
		is(t, "an Effect without calls", nil, b, effect(i), false)
		is(t, "a Ring without calls", nil, b, ring(i), false)
	}
	for _, i := range far {
		for _, x := range []api.Item{effect(i), ring(i), deliver(i)} {
			is(t, "far off", l, b, x, false)
			for _, y := range []api.Item{effect(0), ring(3), deliver(0)} {
				ahead(t, "far off", l, b, x, y, false)
				ahead(t, "far off", l, b, y, x, false)
			}
		}
	}
}

// P20.1: an item of another kind than the three isn't one, and is ahead of nothing, nor is anything ahead of it.
func TestOtherKinds(t *testing.T) {
	l := calls(rings(marked(done(0, 0, 2, asks(send, 0)), 1), 2), rings(marked(done(1, 5, 9, asks(send, 0)), 6), 7))
	b := bellings(delivered(0, 3, 1), delivered(1, 12, 3))
	for _, kind := range append([]int{0, 4, 5, 6, -1, -2, 9, 256, 257, 258, 259, 1<<32 + 1, 1<<32 + 2, 1<<32 + 3}, far...) {
		for i := range 2 {
			x := api.Item{Kind: kind, Of: i}
			is(t, "another kind", l, b, x, false)
			for _, y := range []api.Item{effect(0), effect(1), ring(0), ring(1), deliver(0), deliver(1), x} {
				ahead(t, "another kind", l, b, x, y, false)
				ahead(t, "another kind", l, b, y, x, false)
			}
		}
	}
}

// P20.1: an Effect begins at the call's From, and ends at its To, if the call is Done; one is ahead of another one, if it ends before that one begins.
func TestEffectAhead(t *testing.T) {
	for _, x := range []struct {
		from0, to0, from1, to1 int
		first, second          bool // is the first one ahead of the second one, and the other way round
	}{
		{0, 5, 6, 9, true, false},
		{0, 5, 5, 9, false, false}, // it ends at the very moment at which the other one begins
		{0, 5, 4, 9, false, false},
		{0, 9, 4, 5, false, false},
		{4, 5, 0, 9, false, false},
		{6, 9, 0, 5, false, true},
		{5, 9, 0, 5, false, false},
		{3, 3, 3, 3, false, false},
		{3, 3, 4, 4, true, false},
		{4, 4, 3, 3, false, true},
		{0, 0, 1, 1, true, false},
		{0, 1 << 40, 1<<40 + 1, 1 << 41, true, false},
		{0, math.MaxInt - 1, math.MaxInt, math.MaxInt, true, false},
		// Calls that aren't sound, each of which ends before the other one begins.
		{5, 1, 5, 1, true, true},
		{9, -5, 0, 3, true, true},
		{9, -5, 0, 9, true, false},
		{math.MaxInt, math.MinInt, math.MaxInt, math.MinInt, true, true},
	} {
		for _, mark := range []int{-1, 0, 7} {
			l := calls(marked(done(0, x.from0, x.to0, asks(peek, 0)), mark), done(1, x.from1, x.to1, asks(read, 1)))
			ahead(t, "the first one", l, nil, effect(0), effect(1), x.first)
			ahead(t, "the second one", l, nil, effect(1), effect(0), x.second)
			ahead(t, "itself", l, nil, effect(0), effect(0), false)
			ahead(t, "itself", l, nil, effect(1), effect(1), false)
		}
	}
}

// P20.1: a call that isn't Done never ends: its Effect is ahead of no Effect and no Deliver.
func TestNeverEnds(t *testing.T) {
	for _, to := range []int{-1, 0, 5, math.MinInt, math.MaxInt} {
		x := marked(open(0, 0, asks(write, 0, 7)), 3)
		x.To = to
		l := calls(x, done(1, 100, 200, asks(read, 1)), rings(marked(open(2, math.MaxInt, asks(send, 2, 7)), math.MaxInt), math.MaxInt))
		b := bellings(delivered(1, 300, 1), delivered(1, math.MaxInt, 1))
		for _, y := range []api.Item{effect(1), effect(2), ring(2), deliver(0), deliver(1), effect(0)} {
			ahead(t, "never ends", l, b, effect(0), y, false)
		}
		// Others are ahead of it by when it begins.
		l[0].From = 201
		ahead(t, "ahead of one that never ends", l, b, effect(1), effect(0), true)
		l[0].From = 200
		ahead(t, "the very moment", l, b, effect(1), effect(0), false)
	}
}

// P20.1: a Ring begins and ends at the call's Ring, a Deliver at the delivery's At.
func TestMomentsAhead(t *testing.T) {
	for _, at := range []int{0, 6, 7, 8, 12, 1 << 40} {
		l := calls(done(0, 7, 12, asks(peek, 0)), rings(marked(done(1, 0, 1<<50, asks(send, 2)), 0), at), rings(marked(open(2, 0, asks(send, 4)), 0), 7))
		b := bellings(delivered(0, at, 1), delivered(1, 7, 3))
		for _, x := range []api.Item{ring(1), deliver(0)} {
			ahead(t, "of an Effect", l, b, x, effect(0), at < 7)
			ahead(t, "an Effect", l, b, effect(0), x, at > 12)
			for _, y := range []api.Item{ring(2), deliver(1)} {
				ahead(t, "of a moment", l, b, x, y, at < 7)
				ahead(t, "a moment", l, b, y, x, at > 7)
			}
			ahead(t, "itself", l, b, x, x, false)
		}
		ahead(t, "of one moment", l, b, ring(1), deliver(0), false)
		ahead(t, "of one moment", l, b, deliver(0), ring(1), false)
	}
}

// P20.1: the Effect of a call is ahead of its Ring, whenever that is, and whether it ends or not; of no other one's for that.
func TestEffectAheadOfItsRing(t *testing.T) {
	for _, at := range []int{0, 5, 7, 9, 1 << 40} {
		for _, x := range []api.Call{done(0, 5, 9, asks(send, 0, 7)), marked(done(0, 5, 9, asks(send, 0, 7)), 6), marked(open(0, 5, asks(send, 0, 7)), 6), done(3, 5, 9, asks(peek, 0))} {
			l := calls(done(1, 5, 9, asks(peek, 0)), rings(x, at), rings(marked(open(2, 5, asks(send, 2)), 6), at))
			ahead(t, "of its Ring", l, nil, effect(1), ring(1), true)
			ahead(t, "its Ring", l, nil, ring(1), effect(1), at < 5)
			ahead(t, "of another one's", l, nil, effect(0), ring(1), at > 9)
			ahead(t, "of one that there isn't", l, nil, effect(0), ring(0), false)
			ahead(t, "of another one's", l, nil, effect(2), ring(1), false)
			ahead(t, "of its Ring, under way", l, nil, effect(2), ring(2), true)
		}
		// Its Effect isn't one.
		l := calls(rings(open(0, 0, asks(send, 0, 7)), at))
		ahead(t, "that isn't one", l, nil, effect(0), ring(0), false)
		ahead(t, "that isn't one", l, nil, ring(0), effect(0), false)
	}
	// A delivery at the call's place has nothing to do with it.
	ahead(t, "a Deliver", calls(rings(done(0, 5, 9, asks(send, 0, 7)), 7)), bellings(delivered(0, 7, 1)), effect(0), deliver(0), false)
	ahead(t, "a Deliver", calls(rings(done(0, 5, 9, asks(send, 0, 7)), 7)), bellings(delivered(0, 7, 1)), deliver(0), ring(0), false)
}

// P20.1: of what isn't one nothing is ahead, and it is ahead of nothing, whatever its times are.
func TestAheadOfWhatIsNone(t *testing.T) {
	l := calls(done(0, 0, 3, asks(peek, 0)), open(1, 5, asks(peek, 0)), done(2, 9, 9, asks(peek, 0)))
	l[1].To = 6
	b := bellings(delivered(1, 4, 1))
	for _, x := range []api.Item{effect(1), ring(0), ring(1), ring(2), effect(3), ring(3), deliver(1), effect(-1), deliver(-1), {}, {Kind: 4}} {
		is(t, "none", l, b, x, false)
		for _, y := range []api.Item{effect(0), effect(2), deliver(0), x} {
			ahead(t, "none", l, b, x, y, false)
			ahead(t, "of none", l, b, y, x, false)
		}
	}
	ahead(t, "both are one", l, b, effect(0), effect(2), true)
	ahead(t, "both are one", l, b, effect(0), deliver(0), true)
	ahead(t, "both are one", l, b, deliver(0), effect(2), true)
}

// post are a queue of Words 2, Depth 1 from 0 to 1, and calls and deliveries of it that are sound: with items that could have been in this order.
func post() (api.Config, []api.Call, []api.Belling, []api.Item) {
	in := func(x api.Call, t0, t1, own0, own1 int) api.Call {
		x.T0, x.T1, x.Own0, x.Own1 = t0, t1, own0, own1
		return x
	}
	return between(queue(0, 1, 2, 1)), calls(
			in(marked(done(0, 0, 0, asks(create, 0)), 0), 0, 0, 1, 1),
			in(marked(done(1, 1, 1, asks(create, 1)), 1), 0, 0, 1, 1),
			in(marked(done(0, 2, 2, asks(normal, 0)), 2), 0, 0, 2, 2),
			in(marked(done(1, 3, 3, asks(normal, 0)), 3), 0, 0, 2, 2),
			in(rings(marked(done(0, 4, 12, asks(send, 0, 7, 8)), 10), 12), 0, 0, 3, 9),
			in(answered(marked(done(1, 5, 8, asks(receive, 1)), 8), api.Answer{Code: notAvailable}), 0, 0, 3, 4),
			in(answered(marked(done(1, 11, 20, asks(receive, 1)), 20), api.Answer{Data: []uint32{7, 8}}), 0, 1, 5, 9),
			in(answered(done(0, 21, 21, asks(send, 1, 9)), api.Answer{Code: invalidParam}), 1, 1, 10, 10),
		), bellings(delivered(1, 13, 1)),
		[]api.Item{effect(0), effect(1), effect(2), effect(3), effect(5), effect(4), ring(4), deliver(0), effect(6)}
}

// with is the same list with another one at that place.
func with[T any](l []T, i int, x T) []T {
	l = slices.Clone(l)
	l[i] = x
	return l
}

// swapped is the same order with two items changed for one another.
func swapped(l []api.Item, i, j int) []api.Item {
	l = slices.Clone(l)
	l[i], l[j] = l[j], l[i]
	return l
}

// refusedMarked are the calls of post, the last one of which is marked as it is answered.
func refusedMarked() (api.Config, []api.Call, []api.Belling, []api.Item) {
	c, l, b, order := post()
	l[7].Mark = 21
	return c, l, b, append(order, effect(7))
}

// P20.1: the order could have been; so it could with two items changed for one another that overlap, and of which the model does the same.
func TestCouldHaveBeen(t *testing.T) {
	c, l, b, order := refusedMarked()
	if !hist.Sound(l...) {
		t.Fatalf("not sound: %+v", l)
	}
	valid(t, "in order", true, c, l, b, order...)
	// The second Receive and the delivery overlap, and so do the Receive and the Ring.
	valid(t, "received ahead of its bell's delivery", true, c, l, b, swapped(order, 7, 8)...)
	valid(t, "received ahead of its bell", true, c, l, b, append(effects(0, 1, 2, 3, 5, 4, 6), ring(4), deliver(0), effect(7))...)
	// These two are in the midst of each other, but the model answers otherwise.
	valid(t, "sent ahead of a Receive that found nothing", false, c, l, b, swapped(order, 4, 5)...)
	valid(t, "none", false, c, l, b)
}

// P20.1: none stands behind one that it is ahead of.
func TestBehindWhatItIsAheadOf(t *testing.T) {
	c, l, b, order := refusedMarked()
	// Each of these leaves the model's answers as they are.
	valid(t, "Create behind another one's", false, c, l, b, swapped(order, 0, 1)...)
	valid(t, "Normal behind another one's", false, c, l, b, swapped(order, 2, 3)...)
	valid(t, "the bell ahead of the Send", false, c, l, b, swapped(order, 5, 6)...)
	valid(t, "what is refused ahead of a Receive", false, c, l, b, swapped(order, 8, 9)...)
	valid(t, "what is refused ahead of a delivery", false, c, l, b, slices.Insert(slices.Clone(order[:9]), 7, effect(7))...)
	valid(t, "what is refused ahead of all", false, c, l, b, slices.Insert(slices.Clone(order[:9]), 0, effect(7))...)
	valid(t, "the first one behind all", false, c, l, b, append(slices.Clone(order[1:]), order[0])...)
	// If the times were others, these could have been.
	l[0].To, l[1].To, l[3].From, l[6].To = 1, 2, 2, 21
	l[0].Mark, l[1].Mark = -1, -1
	valid(t, "Creates at once", true, c, l, b, swapped(order, 0, 1)...)
	valid(t, "Normals at once", true, c, l, b, swapped(order, 2, 3)...)
	valid(t, "what is refused ahead of a Receive that ends at that moment", true, c, l, b, swapped(order, 8, 9)...)
}

// P20.1: an item that ends at the very moment at which another one begins isn't ahead of it, so either may stand first.
func TestTheVeryMoment(t *testing.T) {
	c := between()
	pokes := func(part, from, to int) api.Call {
		r := api.Request{Op: poke, Data: []uint32{1}}
		if part == 1 {
			r.Addr = 2
		}
		return done(part, from, to, r)
	}
	for _, x := range []struct {
		from0, to0, from1, to1 int
		first, second          bool // may the first one stand first, may the second one
	}{
		{0, 5, 6, 9, true, false},
		{0, 5, 5, 9, true, true},
		{0, 5, 4, 9, true, true},
		{3, 3, 3, 3, true, true},
		{3, 3, 4, 4, true, false},
		{6, 9, 0, 5, false, true},
		{5, 9, 0, 5, true, true},
		{5, 1, 5, 1, false, false},
	} {
		l := calls(pokes(0, x.from0, x.to0), pokes(1, x.from1, x.to1))
		valid(t, "the first one first", x.first, c, l, nil, effects(0, 1)...)
		valid(t, "the second one first", x.second, c, l, nil, effects(1, 0)...)
	}
	// One that isn't next to what it is ahead of, and one that never ends.
	l := calls(pokes(0, 0, 3), pokes(1, 0, 9), pokes(0, 4, 5), marked(open(1, 2, api.Request{Op: poke, Addr: 3, Data: []uint32{5}}), 6))
	for _, x := range permutations(4) {
		want := slices.Index(x, 0) < slices.Index(x, 2)
		valid(t, "four", want, c, l, nil, effects(x...)...)
	}
	// A bell and a delivery of one moment.
	c = between(queue(0, 1, 1, 1))
	made := calls(done(0, 0, 0, asks(create, 0)), done(0, 1, 1, asks(normal, 0)), rings(done(0, 2, 9, asks(send, 0, 4)), 7))
	for at := 5; at <= 9; at++ {
		valid(t, "delivered with its bell", at >= 7, c, made, bellings(delivered(1, at, 1)), effect(0), effect(1), effect(2), ring(2), deliver(0))
		// If nothing is delivered then, the delivery comes first.
		valid(t, "delivered ahead of its bell", at <= 7, c, made, bellings(delivered(1, at)), effect(0), effect(1), effect(2), deliver(0), ring(2))
	}
}

// P20.1: the Effect of a call stands ahead of its Ring, even if the call never ends, or the bell is said to have rung with its beginning.
func TestItsRingBehindIt(t *testing.T) {
	c := between(queue(0, 1, 1, 1))
	made := calls(done(0, 0, 0, asks(create, 0)), done(0, 1, 1, asks(normal, 0)))
	for _, x := range []api.Call{
		rings(marked(done(0, 2, 9, asks(send, 0, 4)), 6), 7),
		rings(marked(open(0, 2, asks(send, 0, 4)), 6), 7),
		rings(done(0, 2, 9, asks(send, 0, 4)), 2),
		rings(marked(open(0, 2, asks(send, 0, 4)), 2), 2),
	} {
		l := append(slices.Clone(made), x)
		valid(t, "behind it", true, c, l, nil, effect(0), effect(1), effect(2), ring(2))
		valid(t, "ahead of it", false, c, l, nil, effect(0), effect(1), ring(2), effect(2))
	}
	// Without an Effect that is one its Ring stands alone; so it does if the Effect needn't be there.
	l := append(slices.Clone(made), rings(open(0, 2, asks(send, 0, 4)), 7))
	valid(t, "alone", true, c, l, nil, effect(0), effect(1), ring(2))
	l[2].Mark = 6
	valid(t, "alone", true, c, l, nil, effect(0), effect(1), ring(2))
	// One that rang before it began can't be in any order.
	l[2].From, l[2].Ring = 5, 3
	valid(t, "rung before it began", false, c, l, nil, effect(0), effect(1), effect(2), ring(2))
	valid(t, "rung before it began", false, c, l, nil, effect(0), effect(1), ring(2), effect(2))
}

// P20.1: each that is due stands in it; an Effect that is one and isn't due may lack.
func TestLacks(t *testing.T) {
	c, l, b, order := refusedMarked()
	for i := range order {
		valid(t, "one that is due lacks", false, c, l, b, slices.Delete(slices.Clone(order), i, i+1)...)
	}
	// Without its Mark what is refused is due all the same.
	_, l, _, _ = post()
	valid(t, "with it", true, c, l, b, order...)
	valid(t, "without it", false, c, l, b, order[:9]...)
	// Of items that have nothing to do with each other.
	c = between(sample(0, 1, 1, 3))
	pokes := api.Request{Op: poke, Data: []uint32{1}}
	valid(t, "an Effect that is due", false, c, calls(done(0, 0, 4, pokes)), nil)
	valid(t, "an Effect that is due, with its Mark", false, c, calls(marked(done(0, 0, 4, pokes), 3)), nil)
	valid(t, "an Effect that isn't due", true, c, calls(marked(open(0, 0, pokes), 3)), nil)
	valid(t, "it stands in it", true, c, calls(marked(open(0, 0, pokes), 3)), nil, effect(0))
	valid(t, "an Effect that isn't one", true, c, calls(open(0, 0, pokes)), nil)
	valid(t, "it stands in it", false, c, calls(open(0, 0, pokes)), nil, effect(0))
	valid(t, "a Deliver", false, c, nil, bellings(delivered(1, 3)))
	valid(t, "it stands in it", true, c, nil, bellings(delivered(1, 3)), deliver(0))
	valid(t, "one of two", false, c, nil, bellings(delivered(1, 3), delivered(1, 3)), deliver(1))
	c = between(queue(0, 1, 1, 1))
	valid(t, "a Ring", false, c, calls(rings(open(0, 0, asks(send, 0, 5)), 3)), nil)
	valid(t, "it stands in it", true, c, calls(rings(open(0, 0, asks(send, 0, 5)), 3)), nil, ring(0))
	valid(t, "a Ring at moment 0", false, c, calls(rings(open(0, 0, asks(send, 0, 5)), 0)), nil)
	valid(t, "it stands in it", true, c, calls(rings(open(0, 0, asks(send, 0, 5)), 0)), nil, ring(0))
}

// P20.1: an item that stands twice in an order.
func TestTwice(t *testing.T) {
	c, l, b, order := refusedMarked()
	for i, x := range order {
		for j := range len(order) + 1 {
			valid(t, "twice", false, c, l, b, slices.Insert(slices.Clone(order), j, x)...)
		}
		valid(t, "twice, and none else lacks", false, c, l, b, with(order, i, order[(i+1)%len(order)])...)
	}
	// Where the model does the same each time, and nothing is ahead of anything.
	pokes := api.Request{Op: poke, Data: []uint32{1}}
	for _, x := range []api.Call{done(0, 0, 9, pokes), marked(open(0, 0, pokes), 3)} {
		valid(t, "once", true, between(), calls(x), nil, effect(0))
		valid(t, "twice", false, between(), calls(x), nil, effect(0), effect(0))
	}
	valid(t, "once", true, between(), nil, bellings(delivered(0, 5), delivered(0, 5)), deliver(1), deliver(0))
	valid(t, "twice", false, between(), nil, bellings(delivered(0, 5), delivered(0, 5)), deliver(1), deliver(0), deliver(1))
	q, sends := between(queue(0, 1, 1, 1)), rings(open(0, 0, asks(send, 0, 5)), 3)
	valid(t, "once", true, q, calls(sends), nil, ring(0))
	valid(t, "twice", false, q, calls(sends), nil, ring(0), ring(0))
}

// P20.1: an order with an item that isn't one.
func TestWithWhatIsNone(t *testing.T) {
	c, l, b, order := refusedMarked()
	l = append(l, open(1, 30, asks(receive, 1)))
	valid(t, "without it", true, c, l, b, order...)
	for _, x := range append([]api.Item{effect(8), ring(8), ring(0), ring(5), ring(7), deliver(1), deliver(8), effect(9), ring(9), effect(-1), ring(-1), deliver(-1), {}, {Kind: 4}, {Kind: -1}, {Kind: 0, Of: 4}, {Kind: 4, Of: 4}}, farItems()...) {
		for j := range len(order) + 1 {
			valid(t, "isn't one", false, c, l, b, slices.Insert(slices.Clone(order), j, x)...)
		}
		for j := range order {
			valid(t, "isn't one", false, c, l, b, with(order, j, x)...)
		}
	}
}

// farItems are of places far off, and of kinds far off.
func farItems() (l []api.Item) {
	for _, n := range far {
		l = append(l, effect(n), ring(n), deliver(n), api.Item{Kind: n})
	}
	return l
}

// P20.1: the Effect of a call that is Done is answered by the model with just its Ans.
func TestJustItsAnswer(t *testing.T) {
	c, l, b, order := refusedMarked()
	for i, x := range l {
		for _, code := range []api.Errno{ok, noAction, notAvailable, invalidParam, 4, invalidMode, accessFault, 7, -1} {
			y := x
			y.Ans.Code = code
			valid(t, "a code", code == x.Ans.Code, c, with(l, i, y), b, order...)
		}
		y := x
		y.Ans.Valid = true
		valid(t, "Valid", false, c, with(l, i, y), b, order...)
		for _, n := range []int{1, -1, 2, 1 << 32} {
			y = x
			y.Ans.Count = n
			valid(t, "a Count", false, c, with(l, i, y), b, order...)
		}
		for _, data := range [][]uint32{nil, {}, {7}, {8}, {7, 9}, {6, 8}, {8, 7}, {7, 8, 0}, {0, 7, 8}, {0}, {7, 8}} {
			y = x
			y.Ans.Data = data
			valid(t, "Data", slices.Equal(data, x.Ans.Data), c, with(l, i, y), b, order...)
		}
	}
}

// P20.1: likewise of a Read's Valid, a Status's Valid and Count, and a Peek's Data.
func TestEachAnswer(t *testing.T) {
	c := between(sample(0, 1, 2, 3), queue(0, 1, 1, 2))
	stamped := func(x api.Call, stamp int) api.Call {
		x.Stamp = stamp
		return x
	}
	l := calls(
		done(0, 0, 0, asks(create, 0)), done(0, 1, 1, asks(create, 2)), done(0, 2, 2, asks(normal, 0)),
		done(1, 3, 3, asks(create, 1)), done(1, 4, 4, asks(normal, 0)),
		answered(done(1, 5, 9, asks(read, 1)), api.Answer{Code: noAction}),
		stamped(done(0, 10, 18, asks(write, 0, 8, 9)), 2),
		answered(done(1, 20, 27, asks(read, 1)), api.Answer{Data: []uint32{8, 9}, Valid: true}),
		answered(done(1, 28, 28, asks(status, 1)), api.Answer{Valid: true}),
		done(0, 30, 36, asks(send, 2, 5)),
		answered(done(0, 37, 38, asks(status, 2)), api.Answer{Count: 1}),
		done(0, 40, 41, api.Request{Op: poke, Addr: 1, Data: []uint32{6}}),
		answered(done(0, 42, 43, api.Request{Op: peek, Addr: 1}), api.Answer{Data: []uint32{6}}),
		answered(done(0, 44, 44, api.Request{Op: peek, Addr: 2}), api.Answer{Code: accessFault}),
	)
	var order []api.Item
	for i := range l {
		order = append(order, effect(i))
	}
	valid(t, "in order", true, c, l, nil, order...)
	for i, x := range l {
		y := x
		y.Ans.Valid = !x.Ans.Valid
		valid(t, "Valid", false, c, with(l, i, y), nil, order...)
		y = x
		y.Ans.Count = 1 - x.Ans.Count
		valid(t, "Count", false, c, with(l, i, y), nil, order...)
		y = x
		y.Ans.Code = accessFault - x.Ans.Code
		valid(t, "Code", false, c, with(l, i, y), nil, order...)
		y = x
		y.Ans.Data = append(slices.Clone(x.Ans.Data), 0)
		valid(t, "Data", false, c, with(l, i, y), nil, order...)
	}
	// What is asked for, by whom, and the ticks of it count, too.
	for _, x := range []struct {
		i    int
		turn func(x *api.Call)
		want bool
	}{
		{6, func(x *api.Call) { x.Stamp = 1 }, false},
		{6, func(x *api.Call) { x.Stamp = 3 }, true},
		{7, func(x *api.Call) { x.T1 = 6 }, false},
		{7, func(x *api.Call) { x.T1 = 4 }, true},
		{6, func(x *api.Call) { x.Req.Data = []uint32{8} }, false},
		{6, func(x *api.Call) { x.Part = 1 }, false},
		{9, func(x *api.Call) { x.Req.Data = []uint32{55} }, true},
		{12, func(x *api.Call) { x.Req.Addr = 0 }, false},
		{2, func(x *api.Call) { x.Req.Op = 0 }, false},
	} {
		y := l[x.i]
		x.turn(&y)
		valid(t, "turned", x.want, c, with(l, x.i, y), nil, order...)
	}
	// And the configuration.
	c.Chans[0].Period = 2
	valid(t, "a lesser Period", false, c, l, nil, order...)
	c.Chans[0].Period = 4
	valid(t, "a greater Period", true, c, l, nil, order...)
	c.Parts[0].Private = 3
	valid(t, "more private words", false, c, l, nil, order...)
}

// P20.1: of a call that isn't Done the model does the effect too, but its answer isn't asked.
func TestUnderWay(t *testing.T) {
	c, l, b, order := post()
	l = l[:7]
	order = append(effects(0, 1, 2, 3, 5, 4), ring(4), deliver(0), effect(6))
	valid(t, "all are Done", true, c, l, b, order...)
	for _, a := range []api.Answer{{}, {Code: notAvailable}, {Code: 7, Data: []uint32{9}, Valid: true, Count: 5}} {
		x := l[4]
		x.Done, x.To, x.T1, x.Own1, x.Ans = false, -1, -1, -1, a
		valid(t, "the Send is under way", true, c, with(l, 4, x), b, order...)
		// Without its Effect there is nothing to be received.
		valid(t, "without its Effect", false, c, with(l, 4, x), b, append(effects(0, 1, 2, 3, 5), ring(4), deliver(0), effect(6))...)
		x.Mark = -1
		valid(t, "without a Mark", false, c, with(l, 4, x), b, order...)
		y := l[6]
		y.Done, y.To, y.T1, y.Own1, y.Ans = false, -1, -1, -1, a
		valid(t, "the Receive is under way", true, c, with(l, 6, y), b, order...)
		valid(t, "without its Effect", true, c, with(l, 6, y), b, order[:8]...)
		// The first Receive's effect, wherever it is.
		y = l[5]
		y.Done, y.To, y.T1, y.Own1, y.Ans = false, -1, -1, -1, a
		valid(t, "a Receive of none is under way", true, c, with(l, 5, y), b, order...)
		valid(t, "a Receive takes away what the other one received", false, c, with(l, 5, y), b, swapped(order, 4, 5)...)
	}
	// A Write under way that a Read found, and one that was refused.
	c = between(sample(0, 1, 1, 3))
	made := calls(done(0, 0, 0, asks(create, 0)), done(0, 1, 1, asks(normal, 0)), done(1, 2, 2, asks(create, 1)), done(1, 3, 3, asks(normal, 0)))
	x := marked(open(0, 4, asks(write, 0, 6)), 9)
	x.Stamp = 3
	y := answered(done(1, 5, 12, asks(read, 1)), api.Answer{Data: []uint32{6}, Valid: true})
	l = append(slices.Clone(made), x, y)
	valid(t, "found", true, c, l, nil, effects(0, 1, 2, 3, 4, 5)...)
	valid(t, "found ahead of it", false, c, l, nil, effects(0, 1, 2, 3, 5, 4)...)
	l[5].Ans = api.Answer{Code: noAction}
	valid(t, "not found", false, c, l, nil, effects(0, 1, 2, 3, 4, 5)...)
	valid(t, "not found ahead of it", true, c, l, nil, effects(0, 1, 2, 3, 5, 4)...)
	valid(t, "not found without it", true, c, l, nil, effects(0, 1, 2, 3, 5)...)
	l[4].Req.Data = nil
	valid(t, "the model refuses it", true, c, l, nil, effects(0, 1, 2, 3, 4, 5)...)
}

// P20.1: Ring of a Ring is true: so it is of a Send of a port that there is.
func TestTheModelRings(t *testing.T) {
	c := between(queue(0, 1, 1, 1))
	for op := -1; op <= 11; op++ {
		for port := -2; port <= 4; port++ {
			l := calls(rings(open(0, 0, asks(op, port, 5)), 3))
			valid(t, "a Ring", op == send && (port == 0 || port == 1), c, l, nil, ring(0))
			valid(t, "a Ring without a channel", false, between(), l, nil, ring(0))
		}
	}
}

// P20.1: Deliver of a delivery's Part is just its Ports.
func TestTheModelDelivers(t *testing.T) {
	c := between(queue(0, 1, 1, 1), queue(1, 0, 1, 1), queue(0, 1, 1, 1))
	sends := func(port, at int) api.Call { return rings(open(0, 0, asks(send, port, 5)), at) }
	l := calls(sends(0, 3), sends(2, 4), sends(4, 5), sends(4, 6))
	order := []api.Item{ring(0), ring(1), ring(2), ring(3), deliver(0)}
	for _, ports := range [][]int{{1, 5}, {5, 1}, {1}, {5}, nil, {}, {1, 5, 3}, {3}, {1, 1, 5}, {1, 5, 5}, {0, 1, 5}, {1, 3, 5}, {1, 4}, {-1, 5}} {
		valid(t, "to 1", slices.Equal(ports, []int{1, 5}), c, l, bellings(delivered(1, 9, ports...)), order...)
		valid(t, "to 0", slices.Equal(ports, []int{3}), c, l, bellings(delivered(0, 9, ports...)), order...)
		for _, p := range append([]int{-1, 2, 3}, far...) {
			valid(t, "to nobody", len(ports) == 0, c, l, bellings(delivered(p, 9, ports...)), order...)
		}
	}
	// Each bell is delivered once, with the first delivery behind it.
	valid(t, "two deliveries", true, c, l, bellings(delivered(1, 4, 1), delivered(1, 9, 5)), ring(0), deliver(0), ring(1), ring(2), ring(3), deliver(1))
	valid(t, "a delivery of nothing", true, c, l, bellings(delivered(1, 9, 1, 5), delivered(1, 10)), append(slices.Clone(order), deliver(1))...)
	valid(t, "delivered twice", false, c, l, bellings(delivered(1, 9, 1, 5), delivered(1, 10, 1)), append(slices.Clone(order), deliver(1))...)
	valid(t, "delivered again", true, c, l, bellings(delivered(1, 5, 1, 5), delivered(1, 10, 5)), ring(0), ring(1), ring(2), deliver(0), ring(3), deliver(1))
	// To whom the other numbers of a delivery are told makes no difference.
	x := delivered(1, 9, 1, 5)
	x.Tick, x.Own = -77, 99
	valid(t, "other numbers", true, c, l, bellings(x), order...)
}

// permutations are all orders of the numbers below n.
func permutations(n int) [][]int {
	if n == 0 {
		return [][]int{nil}
	}
	var l [][]int
	for _, x := range permutations(n - 1) {
		for at := range n {
			l = append(l, slices.Insert(slices.Clone(x), at, n-1))
		}
	}
	return l
}

// P20.1: of all orders of seven items those alone could have been that respect time, and in which the model does the same.
func TestAllOrders(t *testing.T) {
	c, l, b, order := post()
	l, order = l[:7], order[2:]
	count := 0
	for _, x := range permutations(len(order)) {
		// All orders of all items but the first two.
		turned := effects(0, 1)
		for _, i := range x {
			turned = append(turned, order[i])
		}
		want := couldHaveBeen(c, l, b, turned)
		valid(t, "all orders", want, c, l, b, turned...)
		if want {
			count++
		}
	}
	// The Ring is behind the Send, the Deliver behind the Ring, and the Receive behind the Send: at three places.
	if count != 3 {
		t.Error(count)
	}
}
