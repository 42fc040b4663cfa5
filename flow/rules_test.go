package flow

import (
	"iter"
	"math"
	"reflect"
	"slices"
	"testing"

	"porthole/api"
)

// far are numbers far from all that may be; some of them are -1, 0 or 1 once they are cut short, or wrap round.
var far = []int{-3, -100, math.MinInt8, math.MinInt32, -1 << 32, -1<<32 - 1, -1 << 62, math.MinInt, math.MinInt + 1, 1000, math.MaxInt32, math.MaxInt32 + 1, 1<<32 - 1, 1 << 32, 1<<32 + 1, 1 << 62, math.MaxInt - 1, math.MaxInt}

// dicer rolls numbers from 0 on, below n: the same ones in each run.
type dicer func(n int) int

func dice() dicer {
	state := uint64(21)
	return func(n int) int {
		state = state*6364136223846793005 + 1442695040888963407
		return int(state >> 33 % uint64(n))
	}
}

// shuffled is the same list in any order.
func shuffled[T any](roll dicer, l []T) []T {
	l = slices.Clone(l)
	for i := len(l) - 1; i > 0; i-- {
		k := roll(i + 1)
		l[i], l[k] = l[k], l[i]
	}
	return l
}

// rolled are any calls and deliveries, up to so many each, of three partitions, their own steps being few, so that many sights are of one Own.
func rolled(roll dicer, most int) (l []api.Call, b []api.Belling) {
	for range roll(most) {
		r := api.Request{Op: roll(11), Port: roll(6), Addr: uint64(roll(5)), Data: make([]uint32, roll(3))}
		a := api.Answer{Code: api.Errno(roll(7)), Data: make([]uint32, roll(3)), Valid: roll(2) == 0, Count: roll(3)}
		x := done(roll(3), roll(9), roll(9), roll(9), roll(9), r, a)
		x.Done = roll(3) > 0
		l = append(l, x)
	}
	for range roll(most) {
		b = append(b, delivered(roll(3), roll(9), roll(9), []int{1, 3, 5}[:roll(4)]...))
	}
	return l, b
}

// odd are calls and deliveries of any numbers, most of them such as no machine tells.
func odd(roll dicer) (l []api.Call, b []api.Belling) {
	numbers := append([]int{-2, -1, 0, 1, 2, 3, 4, 5}, far...)
	any := func() int { return numbers[roll(len(numbers))] }
	for range roll(6) {
		r := api.Request{Op: any(), Port: any(), Addr: uint64(any()), Data: make([]uint32, roll(3))}
		a := api.Answer{Code: api.Errno(any()), Data: make([]uint32, roll(3)), Valid: roll(2) == 0, Count: any()}
		l = append(l, api.Call{Part: any(), Req: r, Ans: a, Done: roll(2) == 0, From: any(), To: any(), T0: any(), T1: any(), Own0: any(), Own1: any(), Mark: any(), Ring: any(), Stamp: any(), Saw: any()})
	}
	for range roll(6) {
		b = append(b, api.Belling{Part: any(), Ports: []int{any(), any()}[:roll(3)], At: any(), Tick: any(), Own: any()})
	}
	return l, b
}

// R1: whatever the numbers are, View and Same end, and neither panics; View is what the chapter's words say, of partitions that there can't be too.
func TestAnything(t *testing.T) {
	roll := dice()
	seen := 0
	for range 10000 {
		l, b := odd(roll)
		for _, p := range []int{-1, 0, 1, far[roll(len(far))]} {
			want := viewed(l, b, p)
			view(t, "odd", l, b, p, want...)
			seen += len(want)
			m, c := odd(roll)
			other := View(m, c, p)
			if got, want := Same(want, other), alike(want, other); got != want {
				t.Fatalf("%v instead of %v, of %+v and %+v", got, want, want, other)
			}
		}
	}
	if seen < 5000 {
		t.Error(seen)
	}
}

// R1: of partitions that there aren't Into ends, of configurations with all that may be.
func TestIntoEnds(t *testing.T) {
	var chans []api.Chan
	for k := range api.MaxChans {
		chans = append(chans, queue(k%6, (k+1+k/6)%6))
	}
	c := parts(6, chans...)
	for p := -2; p < 6; p++ {
		if p < 0 {
			into(t, "all that may be", c, p)
		} else {
			into(t, "all that may be", c, p, 0, 1, 2, 3, 4, 5)
		}
	}
}

// R1: a configuration that isn't accepted, of which nothing is told, is no reason to panic or not to end; nor does anybody lead into a partition that there isn't.
func TestNotAccepted(t *testing.T) {
	roll := dice()
	numbers := append([]int{-1, 0, 1, 2, 3, 4}, far...)
	any := func() int { return numbers[roll(len(numbers))] }
	for range 2000 {
		c := parts(roll(4))
		for range roll(20) {
			c.Chans = append(c.Chans, api.Chan{Kind: []int{sampling, queuing, any()}[roll(3)], From: any(), To: any()})
		}
		if it := Edges(c); it == nil || len(told(it)) < len(c.Chans) {
			t.Fatalf("%+v", c)
		}
		for _, p := range numbers {
			if l := Into(c, p); len(l) > 0 && (p < 0 || p >= len(c.Parts)) {
				t.Fatalf("into %d: %v, of %+v", p, l, c)
			}
		}
	}
}

// R3: nil lists and empty ones are one, handed in.
func TestNoneAndEmpty(t *testing.T) {
	r, a := asks(peek, 1), api.Answer{Code: noAction}
	nones, empties := calls(done(0, 1, 2, 3, 4, r, a), open(0, 4, 5, r)), calls(done(0, 1, 2, 3, 4, r, a), open(0, 4, 5, r))
	for i := range nones {
		nones[i].Req.Data, nones[i].Ans.Data = nil, nil
		empties[i].Req.Data, empties[i].Ans.Data = []uint32{}, []uint32{}
	}
	want := []api.Sight{begins(1, 2, r), ends(3, 4, a), hears(3, 4), begins(4, 5, r)}
	var views [][]api.Sight
	for _, l := range [][]api.Call{nones, empties} {
		for _, ports := range [][]int{nil, {}} {
			b := []api.Belling{{Part: 0, Ports: ports, Own: 3, Tick: 4}, {Part: 1, Ports: ports}}
			view(t, "without words and ports", l, b, 0, want...)
			views = append(views, View(l, b, 0))
		}
	}
	for _, a := range views {
		for _, b := range views {
			sameOrNot(t, "nil and empty", true, a, b)
			sameOrNot(t, "nil and empty", true, a, plain(b))
			sameOrNot(t, "nil and empty, but one port", false, a, with(plain(b), 2, func(x *api.Sight) { x.Ports = []int{0} }))
		}
	}
	for _, chans := range [][]api.Chan{nil, {}} {
		c := parts(2, chans...)
		edges(t, "no channels", c)
		into(t, "no channels", c, 1, 1)
	}
}

// R3: each field of a sight that has no meaning is zero, whatever the call has.
func TestZeroFields(t *testing.T) {
	roll := dice()
	for range 2000 {
		l, b := rolled(roll, 9)
		for _, x := range View(l, b, roll(3)) {
			asked, answered, heard := !reflect.ValueOf(x.Req).IsZero(), !reflect.ValueOf(x.Ans).IsZero(), len(x.Ports) > 0
			if asked && x.Kind != isBegun || answered && x.Kind != isAnswered || heard && x.Kind != isDelivered || x.Kind < 1 || x.Kind > 3 {
				t.Fatalf("%+v", x)
			}
		}
	}
}

// room is a list with marked spare room behind it.
func room[T any](l []T, mark T) []T { return append(slices.Clone(l), mark, mark)[: len(l) : len(l)+2] }

// over writes over a list, spare room included.
func over[T any](l []T, x T) {
	l = l[:cap(l)]
	for i := range l {
		l[i] = x
	}
}

// wholeOf is the list with its spare room, as one of its own.
func wholeOf[T any](l []T) []T { return slices.Clone(l[:cap(l)]) }

// handed is all that is handed in.
type handed struct {
	config   api.Config
	calls    []api.Call
	bellings []api.Belling
	sights   []api.Sight
}

// several are arguments, with all that they may have.
func several() handed {
	l := calls(
		done(1, 1, 0, 1, 0, asks(create, 3), api.Answer{}),
		done(0, 1, 1, 2, 3, asks(poke, 0, 7), api.Answer{}),
		done(1, 2, 2, 9, 4, asks(send, 3, 4, 5), api.Answer{Code: notAvailable, Data: []uint32{8, 9}, Valid: true, Count: 2}),
		open(1, 10, 5, asks(write, 2, 6, 7, 8)),
	)
	b := bellings(delivered(1, 2, 3, 1, 5), delivered(0, 1, 1, 7), delivered(1, 2, 4, 3))
	c := parts(4, sample(0, 1), queue(1, 2), sample(1, 3))
	return handed{c, l, b, some()}
}

// seen are the sights of several's partition 1.
func seen() []api.Sight {
	return []api.Sight{
		begins(1, 0, asks(create, 3)), ends(1, 0, api.Answer{}),
		begins(2, 2, asks(send, 3, 4, 5)), hears(2, 3, 1, 5), hears(2, 4, 3),
		ends(9, 4, api.Answer{Code: notAvailable, Data: []uint32{8, 9}, Valid: true, Count: 2}),
		begins(10, 5, asks(write, 2, 6, 7, 8)),
	}
}

// roomy are the same arguments, each list with marked spare room.
func roomy(x handed) handed {
	x.config.Parts = room(x.config.Parts, api.Part{Core: 9})
	x.config.Chans = room(x.config.Chans, queue(3, 0))
	for i := range x.config.Frames {
		x.config.Frames[i].Windows = room(x.config.Frames[i].Windows, api.Window{Part: 9})
	}
	x.calls = room(x.calls, open(1, 9, 90, asks(poke, 9)))
	for i := range x.calls {
		x.calls[i].Req.Data, x.calls[i].Ans.Data = room(x.calls[i].Req.Data, 981), room(x.calls[i].Ans.Data, 982)
	}
	x.bellings = room(x.bellings, delivered(1, 9, 97, 9))
	for i := range x.bellings {
		x.bellings[i].Ports = room(x.bellings[i].Ports, 983)
	}
	x.sights = room(x.sights, hears(9, 97, 9))
	for i := range x.sights {
		y := &x.sights[i]
		y.Req.Data, y.Ans.Data, y.Ports = room(y.Req.Data, 984), room(y.Ans.Data, 985), room(y.Ports, 986)
	}
	return x
}

// everything is all that roomy arguments have, spare room included, told apart from them.
func everything(x handed) []any {
	has := []any{x.config.Frames[0].Length, x.config.Frames[1].Length}
	has = append(has, wholeOf(x.config.Parts), wholeOf(x.config.Chans), wholeOf(x.config.Frames[0].Windows), wholeOf(x.config.Frames[1].Windows))
	for i, y := range x.calls[:cap(x.calls)] {
		if i < len(x.calls) {
			has = append(has, len(y.Req.Data), wholeOf(y.Req.Data), len(y.Ans.Data), wholeOf(y.Ans.Data))
			y.Req.Data, y.Ans.Data = nil, nil
		}
		has = append(has, y)
	}
	for i, y := range x.bellings[:cap(x.bellings)] {
		if i < len(x.bellings) {
			has = append(has, len(y.Ports), wholeOf(y.Ports))
			y.Ports = nil
		}
		has = append(has, y)
	}
	for i, y := range x.sights[:cap(x.sights)] {
		if i < len(x.sights) {
			has = append(has, len(y.Req.Data), wholeOf(y.Req.Data), len(y.Ans.Data), wholeOf(y.Ans.Data), len(y.Ports), wholeOf(y.Ports))
			y.Req.Data, y.Ans.Data, y.Ports = nil, nil, nil
		}
		has = append(has, y)
	}
	return has
}

// wastedSights writes over sights, spare room included.
func wastedSights(l []api.Sight) {
	for _, y := range l {
		over(y.Req.Data, 991)
		over(y.Ans.Data, 992)
		over(y.Ports, 993)
	}
	over(l, hears(7, 7, 7))
}

// wasted writes over all that roomy arguments have, spare room included.
func wasted(x handed) {
	for _, y := range x.calls {
		over(y.Req.Data, 994)
		over(y.Ans.Data, 995)
	}
	for _, y := range x.bellings {
		over(y.Ports, 996)
	}
	over(x.config.Parts, api.Part{Core: 7})
	over(x.config.Chans, queue(2, 0))
	over(x.config.Frames[0].Windows, api.Window{Part: 7})
	over(x.config.Frames[1].Windows, api.Window{Part: 7})
	over(x.calls, open(1, 7, 7, asks(7, 7)))
	over(x.bellings, delivered(1, 7, 7))
	wastedSights(x.sights)
}

// The edges of several's configuration, and who leads into its partition 1.
var (
	severalEdges = []edge{{0, 1}, {1, 2}, {2, 1}, {1, 3}}
	severalInto  = []int{0, 1, 2}
)

// answersOf tells a fault unless all four calls answer what they have to of several.
func answersOf(t *testing.T, x handed) {
	t.Helper()
	edges(t, "several", x.config, severalEdges...)
	into(t, "several", x.config, 1, severalInto...)
	view(t, "several", x.calls, x.bellings, 1, seen()...)
	sameOrNot(t, "several", true, x.sights, some())
	sameOrNot(t, "several", false, x.sights, x.sights[1:])
}

// R4: what is handed in isn't changed, spare room included.
func TestHandedInIsntChanged(t *testing.T) {
	roll := dice()
	for i := range 500 {
		x := several()
		switch roll(4) {
		case 0:
			x.calls, x.bellings = odd(roll)
		case 1:
			x.calls, x.bellings = rolled(roll, 9)
		case 2:
			x.calls, x.bellings, x.sights = shuffled(roll, x.calls), shuffled(roll, x.bellings), shuffled(roll, x.sights)
		}
		x = roomy(x)
		before := everything(x)
		for range Edges(x.config) {
		}
		for range Edges(x.config) {
			break
		}
		for p := -1; p <= 4; p++ {
			Into(x.config, p)
			View(x.calls, x.bellings, p)
		}
		Same(x.sights, x.sights)
		Same(x.sights, View(x.calls, x.bellings, 1))
		Same(some(), x.sights)
		if after := everything(x); !reflect.DeepEqual(after, before) {
			t.Fatalf("%d: %v instead of %v", i, after, before)
		}
	}
}

// R4: what the caller writes behind a call into what was handed in makes no difference to what was answered.
func TestHandedInIsntKept(t *testing.T) {
	x := roomy(several())
	answersOf(t, x)
	it, leads, sights := Edges(x.config), Into(x.config, 1), View(x.calls, x.bellings, 1)
	others := View(x.calls, x.bellings, 0)
	yes := Same(x.sights, some())
	wasted(x)
	for range 2 {
		if got := told(it); !slices.Equal(got, severalEdges) {
			t.Errorf("%v", got)
		}
	}
	if !slices.Equal(leads, severalInto) || !yes {
		t.Error(leads, yes)
	}
	if !alike(sights, seen()) {
		t.Errorf("%+v", sights)
	}
	if want := []api.Sight{begins(1, 1, asks(poke, 0, 7)), hears(1, 1, 7), ends(2, 3, api.Answer{})}; !alike(others, want) {
		t.Errorf("%+v", others)
	}
	answersOf(t, several())
	answersOf(t, roomy(several()))
}

// R4: likewise in the midst of Edges.
func TestEdgesAreNotKept(t *testing.T) {
	for stop := range severalEdges {
		x := roomy(several())
		it := Edges(x.config)
		var got []edge
		for from, to := range it {
			if len(got) == stop {
				wasted(x)
			}
			got = append(got, edge{from, to})
		}
		if !slices.Equal(got, severalEdges) || !slices.Equal(told(it), severalEdges) {
			t.Errorf("%d: %v, then %v", stop, got, told(it))
		}
	}
}

// R4: what is answered may be written over, spare room included: nothing else is changed, neither what was handed in, nor what was answered, or is answered later.
func TestAnswersAreNew(t *testing.T) {
	x := roomy(several())
	before := everything(x)
	it := Edges(x.config)
	first, second := View(x.calls, x.bellings, 1), View(x.calls, x.bellings, 1)
	lead, other := Into(x.config, 1), Into(x.config, 1)
	wastedSights(first)
	over(lead, 77)
	if !alike(second, seen()) || !slices.Equal(other, severalInto) {
		t.Errorf("%+v, %v", second, other)
	}
	if after := everything(x); !reflect.DeepEqual(after, before) {
		t.Errorf("%v instead of %v", after, before)
	}
	answersOf(t, x)
	if got := told(it); !slices.Equal(got, severalEdges) {
		t.Error(got)
	}
	for _, y := range first {
		if !alike([]api.Sight{y}, []api.Sight{hears(7, 7, 7)}) {
			t.Errorf("%+v", first)
		}
	}
	if slices.ContainsFunc(lead, func(p int) bool { return p != 77 }) {
		t.Error(lead)
	}
}

// R4: no two lists of one answer share anything, though what was handed in does; nor do a list and its neighbour's spare room.
func TestListsOfOneAnswerAreApart(t *testing.T) {
	words, ports := []uint32{1, 2, 3, 4, 5, 6}, []int{1, 3, 5, 7}
	var l []api.Call
	var b []api.Belling
	for i := range 3 {
		l = append(l, done(0, 2*i, i, 2*i+1, i, asks(send, 0, words[i:i+2]...), api.Answer{Data: words[i : i+3]}))
		b = append(b, delivered(0, 2*i, i, ports[:i+1]...))
	}
	want := viewed(l, b, 0)
	for i := range want {
		got := View(l, b, 0)
		over(got[i].Req.Data, 991)
		over(got[i].Ans.Data, 992)
		over(got[i].Ports, 993)
		for k := range got {
			if k != i && !alike(got[k:k+1], want[k:k+1]) {
				t.Fatalf("%d: %+v instead of %+v", k, got, want)
			}
		}
	}
	view(t, "behind that", l, b, 0, want...)
}

// R5: what is answered hangs on the arguments alone, not on what was asked ahead.
func TestHangsOnNothingElse(t *testing.T) {
	roll := dice()
	x := several()
	it := Edges(x.config)
	for range 200 {
		l, b := odd(roll)
		m, c := rolled(roll, 9)
		Same(View(l, b, roll(4)-1), View(m, c, roll(4)-1))
		other := parts(6, queue(roll(3), 3+roll(3)), sample(roll(3), 3+roll(3)))
		for range Edges(other) {
			if roll(3) == 0 {
				break
			}
		}
		Into(other, roll(8)-1)
		answersOf(t, x)
		if got := told(it); !slices.Equal(got, severalEdges) {
			t.Fatal(got)
		}
	}
}

// R5, R6: iterators of one configuration, or of several, that are gone through by turns tell each its own.
func TestEdgesByTurns(t *testing.T) {
	one, other := Edges(several().config), Edges(parts(3, queue(2, 1), sample(0, 2)))
	for range 2 {
		next, stop := iter.Pull2(one)
		more, end := iter.Pull2(other)
		var got, beside []edge
		for {
			from, to, ok := next()
			if x, y, ok := more(); ok {
				beside = append(beside, edge{x, y})
			}
			if !ok {
				break
			}
			got = append(got, edge{from, to})
		}
		stop()
		end()
		if !slices.Equal(got, severalEdges) || !slices.Equal(beside, []edge{{2, 1}, {1, 2}, {0, 2}}) {
			t.Error(got, beside)
		}
	}
}
