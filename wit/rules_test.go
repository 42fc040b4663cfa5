package wit

import (
	"math"
	"reflect"
	"slices"
	"testing"

	"porthole/api"
	"porthole/hist"
)

// far are numbers far from all that may be; some of them are -1, 0 or 1 once they are cut short, or wrap round.
var far = []int{-3, -100, math.MinInt8, math.MinInt32, -1 << 32, -1<<32 - 1, -1 << 62, math.MinInt, math.MinInt + 1, 1000, math.MaxInt32, math.MaxInt32 + 1, 1<<32 - 1, 1 << 32, 1<<32 + 1, 1 << 62, math.MaxInt - 1, math.MaxInt}

// odd are calls and deliveries of any numbers, most of them not sound.
func odd(roll dicer) (l []api.Call, b []api.Belling) {
	numbers := append([]int{-2, -1, 0, 1, 2, 3, 4, 5}, far...)
	any := func() int { return numbers[roll(len(numbers))] }
	for range roll(6) {
		l = append(l, api.Call{Part: any(), Req: api.Request{Op: []int{any(), read, write}[roll(3)], Port: any(), Data: make([]uint32, roll(3))}, Done: roll(2) == 0, From: any(), To: any(), T0: any(), T1: any(), Own0: any(), Own1: any(), Mark: any(), Ring: any(), Stamp: any(), Saw: any()})
	}
	for range roll(6) {
		b = append(b, api.Belling{Part: any(), Ports: []int{any(), any()}[:roll(3)], At: any(), Tick: any(), Own: any()})
	}
	return l, b
}

// R1: whatever the numbers are: both end, and neither panics; what is told are items of the calls and the deliveries, each once, and moments never fall.
func TestAnything(t *testing.T) {
	roll := dice()
	for range 20000 {
		l, b := odd(roll)
		it := All(l, b)
		if it == nil {
			t.Fatal("no iterator")
		}
		got := all(it)
		if !slices.Equal(Order(l, b), items(got)) {
			t.Fatalf("%v, but %v", Order(l, b), got)
		}
		inOrder(t, got)
		eachOnce(t, l, b, got)
	}
}

// inOrder tells a fault if moments fall.
func inOrder(t *testing.T, got []told) {
	t.Helper()
	for i := 1; i < len(got); i++ {
		if got[i].moment < got[i-1].moment {
			t.Fatalf("%v behind %v, of %v", got[i], got[i-1], got)
		}
	}
}

// eachOnce tells a fault unless each item of the calls and the deliveries is told once, at its moment, and nothing else is.
func eachOnce(t *testing.T, l []api.Call, b []api.Belling, got []told) {
	t.Helper()
	count := map[told]int{}
	for _, x := range got {
		count[x]++
	}
	for i, x := range l {
		if at, _, is := hist.Place(l, i); is {
			count[told{at, isEffect, i}]--
		}
		if x.Ring >= 0 {
			count[told{x.Ring, isRing, i}]--
		}
	}
	for i, x := range b {
		count[told{x.At, isDeliver, i}]--
	}
	for x, n := range count {
		if n != 0 {
			t.Fatalf("%v is told %d times too often, of %+v and %+v", x, n, l, b)
		}
	}
}

// R3: nil lists and empty ones are one, those within calls and deliveries too.
func TestNoneAndEmpty(t *testing.T) {
	l, b, want := several()
	for i := range l {
		l[i].Req.Data, l[i].Ans.Data = nil, []uint32{}
	}
	for i := range b {
		b[i].Ports = [][]int{nil, {}}[i%2]
	}
	sound(t, "without lists", l, b, want...)
	for i := range l {
		l[i].Req.Data, l[i].Ans.Data = []uint32{}, nil
	}
	for i := range b {
		b[i].Ports = [][]int{{}, nil}[i%2]
	}
	sound(t, "without lists", l, b, want...)
	x := bellings(delivered(0, 3, 1))
	y := calls(marked(open(poke, 0, 1), 2))
	sound(t, "nil calls", nil, x, told{3, isDeliver, 0})
	sound(t, "no calls", []api.Call{}, x, told{3, isDeliver, 0})
	sound(t, "nil deliveries", y, nil, told{2, isEffect, 0})
	sound(t, "no deliveries", y, []api.Belling{}, told{2, isEffect, 0})
}

// room is a list with marked spare room behind it.
func room[T any](l []T, mark T) []T { return append(slices.Clone(l), mark, mark)[: len(l) : len(l)+2] }

// over writes over a list, spare room included.
func over[T any](l []T, x T) {
	l = l[:cap(l)]
	for i := range l {
		l[i] = x
	}
}

// roomy are the same calls and deliveries, each list with marked spare room.
func roomy(l []api.Call, b []api.Belling) ([]api.Call, []api.Belling) {
	l, b = room(l, marked(done(poke, 9, 90, 99), 95)), room(b, delivered(9, 97, 9))
	for i := range l {
		l[i].Req.Data, l[i].Ans.Data = room(l[i].Req.Data, 77), room(l[i].Ans.Data, 78)
	}
	for i := range b {
		b[i].Ports = room(b[i].Ports, 79)
	}
	return l, b
}

// everything is all that roomy calls and deliveries have, spare room included.
func everything(l []api.Call, b []api.Belling) (has []any) {
	has = append(has, len(l), len(b))
	for i, x := range l[:cap(l)] {
		if i < len(l) {
			has = append(has, len(x.Req.Data), slices.Clone(x.Req.Data[:cap(x.Req.Data)]), len(x.Ans.Data), slices.Clone(x.Ans.Data[:cap(x.Ans.Data)]))
			x.Req.Data, x.Ans.Data = nil, nil
		}
		has = append(has, x)
	}
	for i, x := range b[:cap(b)] {
		if i < len(b) {
			has = append(has, len(x.Ports), slices.Clone(x.Ports[:cap(x.Ports)]))
			x.Ports = nil
		}
		has = append(has, x)
	}
	return has
}

// wasted writes over all that roomy calls and deliveries have, spare room included.
func wasted(l []api.Call, b []api.Belling) {
	for _, x := range l {
		over(x.Req.Data, 991)
		over(x.Ans.Data, 992)
	}
	for _, x := range b {
		over(x.Ports, 993)
	}
	over(l, rings(open(read, 1, 0), 4, 6))
	over(b, delivered(7, 5))
}

// R4: what is handed in isn't changed, spare room included.
func TestHandedInIsntChanged(t *testing.T) {
	roll := dice()
	for range 300 {
		plain, plainBellings := rolled(roll)
		if roll(3) == 0 {
			plain, plainBellings = odd(roll)
		}
		l, b := roomy(plain, plainBellings)
		before := everything(l, b)
		Order(l, b)
		for range All(l, b) {
		}
		for range All(l, b) {
			break
		}
		if after := everything(l, b); !reflect.DeepEqual(after, before) {
			t.Fatalf("%v instead of %v", after, before)
		}
	}
}

// R4: what the caller writes behind All into what was handed in makes no difference, ahead of going through it and in the midst of it; nor to what Order answered.
func TestHandedInIsntKept(t *testing.T) {
	plain, plainBellings, want := several()
	l, b := roomy(plain, plainBellings)
	it := All(l, b)
	wasted(l, b)
	for range 2 {
		if got := all(it); !slices.Equal(got, want) {
			t.Errorf("%v instead of %v", got, want)
		}
	}
	l, b = roomy(plain, plainBellings)
	it = All(l, b)
	var got []told
	for at, x := range it {
		got = append(got, told{at, x.Kind, x.Of})
		wasted(l, b)
	}
	if !slices.Equal(got, want) || !slices.Equal(all(it), want) {
		t.Errorf("%v and %v instead of %v", got, all(it), want)
	}
	l, b = roomy(plain, plainBellings)
	order := Order(l, b)
	wasted(l, b)
	if !slices.Equal(order, items(want)) {
		t.Errorf("%v instead of %v", order, items(want))
	}
}

// R4: what is answered may be written over by the caller, spare room included: nothing else is changed.
func TestAnswersAreNew(t *testing.T) {
	plain, plainBellings, want := several()
	l, b := roomy(plain, plainBellings)
	before := everything(l, b)
	it := All(l, b)
	first, second := Order(l, b), Order(l, b)
	over(first, api.Item{Kind: 77, Of: -7})
	third := Order(l, b)
	for _, got := range [][]api.Item{second, third} {
		if !slices.Equal(got, items(want)) {
			t.Errorf("%v instead of %v", got, items(want))
		}
	}
	over(third, api.Item{Kind: 78})
	if !slices.Equal(second, items(want)) || first[0].Kind != 77 || !slices.Equal(all(it), want) {
		t.Errorf("%v, %v, %v", second, first, all(it))
	}
	if after := everything(l, b); !reflect.DeepEqual(after, before) {
		t.Errorf("%v instead of %v", after, before)
	}
}

// R5: what is answered hangs on the arguments alone, not on what was asked ahead.
func TestHangsOnNothingElse(t *testing.T) {
	roll := dice()
	l, b, want := several()
	it := All(l, b)
	for range 200 {
		Order(odd(roll))
		for range All(rolled(roll)) {
			if roll(5) == 0 {
				break
			}
		}
		sound(t, "several", l, b, want...)
		if !slices.Equal(all(it), want) {
			t.Fatal(all(it))
		}
	}
}
