package hist

import (
	"iter"
	"math"
	"reflect"
	"slices"
	"testing"

	"porthole/api"
)

// item is a call with its place.
type item struct {
	place int
	call  api.Call
}

// all are what an iterator tells.
func all(it iter.Seq2[int, api.Call]) (l []item) {
	for i, x := range it {
		l = append(l, item{i, x})
	}
	return l
}

// same tells whether the same calls were told at the same places; a list without anything in it is as good as none.
func same(a, b []item) bool {
	return slices.EqualFunc(a, b, func(x, y item) bool { return reflect.DeepEqual(bare(x), bare(y)) })
}

// bare is the same one, its lists none, if there is nothing in them.
func bare(x item) item {
	for _, l := range []*[]uint32{&x.call.Req.Data, &x.call.Ans.Data} {
		if len(*l) == 0 {
			*l = nil
		}
	}
	return x
}

// ofPart are the calls of a partition, with their places in the whole list, taken by hand.
func ofPart(calls []api.Call, p int) (l []item) {
	for i := range calls {
		if calls[i].Part == p {
			l = append(l, item{i, own(calls[i])})
		}
	}
	return l
}

// own is the same call, its lists its own.
func own(x api.Call) api.Call {
	x.Req.Data, x.Ans.Data = slices.Clone(x.Req.Data), slices.Clone(x.Ans.Data)
	return x
}

// P17.1: Of: the places of a partition's calls in the whole list, in order, and they.
func TestOf(t *testing.T) {
	l := mixed()
	for p, places := range [][]int{{1, 4, 6}, {2, 5, 7}, {0, 3}, nil} {
		var got []int
		for i, x := range Of(l, p) {
			if i < 0 || i >= len(l) || !reflect.DeepEqual(x, l[i]) {
				t.Errorf("%d: %d, %+v", p, i, x)
			}
			got = append(got, i)
		}
		if !slices.Equal(got, places) {
			t.Errorf("%d: %v instead of %v", p, got, places)
		}
	}
	for _, p := range append([]int{-1, -2, 3, 6, 7}, far...) {
		for range Of(l, p) {
			t.Errorf("%d has a call", p)
		}
	}
	for _, p := range []int{-1, 0, 1} {
		for range Of(nil, p) {
			t.Error("of none")
		}
		for range Of([]api.Call{}, p) {
			t.Error("of none")
		}
	}
	// Calls need not be sound: what is told hangs on Part alone.
	l = []api.Call{{Part: -1, From: 9}, {Part: 1 << 32}, {Part: 0}, {Part: -1, Saw: 90}, {Part: 0, Done: true}}
	for _, p := range []int{-1, 1 << 32, 0, 1} {
		if got, want := all(Of(l, p)), ofPart(l, p); !same(got, want) {
			t.Errorf("%d: %+v instead of %+v", p, got, want)
		}
	}
	roll := dice()
	for range 200 {
		l := rolledCalls(roll, 1+roll(5), roll(90))
		n := 0
		for p := -1; p < 6; p++ {
			got := all(Of(l, p))
			if want := ofPart(l, p); !same(got, want) {
				t.Fatalf("%d: %+v instead of %+v", p, got, want)
			}
			n += len(got)
		}
		if n != len(l) {
			t.Fatal(n, len(l))
		}
	}
}

// P17.1, R6: Of stops when it is asked to, can be gone through again, and within itself, from its beginning on each time.
func TestGoingThrough(t *testing.T) {
	l := mixed()
	for p := -1; p < 4; p++ {
		it, want := Of(l, p), ofPart(l, p)
		if it == nil {
			t.Fatal("no iterator")
		}
		for most := 1; most <= len(want)+1; most++ {
			for range 2 {
				var got []item
				for i, x := range it {
					if got = append(got, item{i, x}); len(got) == most {
						break
					}
				}
				if len(got) != min(most, len(want)) || !same(got, want[:len(got)]) {
					t.Fatalf("%d: %+v", p, got)
				}
			}
			// By hand: it isn't asked any further once it is told to stop.
			asked := 0
			it(func(int, api.Call) bool {
				asked++
				return asked < most
			})
			if asked != min(most, len(want)) {
				t.Fatal(most, asked)
			}
		}
		outer := 0
		for i, x := range it {
			if !same([]item{{i, x}}, want[outer:outer+1]) || !same(all(it), want) {
				t.Fatalf("%d: %d, %+v", p, i, x)
			}
			outer++
		}
		if outer != len(want) {
			t.Fatal(p, outer)
		}
	}
	if Of(nil, 0) == nil || Of(nil, -1) == nil {
		t.Error("no iterator")
	}
}

// placed are calls of each kind that Place knows, and where the effect of each is.
func placed() ([]api.Call, []struct {
	at         int
	behind, is bool
}) {
	first := lasts(with(done(write), 7), 0, 2, 9)
	l := []api.Call{
		first,
		saws(lasts(done(read), 1, 3, 10), 0),
		lasts(done(read), 2, 4, 10),
		saws(lasts(done(read), 3, 6, 10), 0),
		saws(lasts(done(read), 4, 7, 10), 0),
		saws(lasts(done(read), 5, 8, 10), 0),
		lasts(open(read), 6, 9, -1),
		saws(lasts(open(read), 7, 10, -1), 0),
		lasts(open(write), 8, 11, -1),
		with(lasts(open(write), 9, 12, -1), 12),
		lasts(done(write), 10, 13, 14),
		with(lasts(done(read), 11, 14, 20), 17),
		saws(with(lasts(done(read), 12, 15, 20), 17), 0),
		with(lasts(open(read), 13, 16, -1), 18),
		saws(lasts(done(read), 14, 17, 20), 17),
		saws(lasts(done(write), 15, 18, 20), 0),
		with(lasts(done(send), 16, 19, 30), 21),
		with(lasts(done(write), 17, 20, 33), 20),
		with(lasts(done(peek), 18, 21, 21), 21),
		lasts(done(read), 19, 22, 22),
	}
	l[16].Ring = 30
	l[14].To = 25
	return l, []struct {
		at         int
		behind, is bool
	}{
		{7, false, true}, {7, true, true}, {4, true, true}, {7, true, true}, {7, true, true}, {8, true, true}, {}, {}, {}, {12, false, true},
		{}, {17, false, true}, {17, false, true}, {18, false, true}, {20, true, true}, {}, {21, false, true}, {20, false, true}, {21, false, true}, {22, true, true},
	}
}

// P17.2: at its Mark, of a Read that is Done right behind its From or the Mark of the one that it Saw, and of any other one none.
func TestPlace(t *testing.T) {
	l, want := placed()
	if !Sound(l...) || len(l) != len(want) {
		t.Fatal(broken(l), len(l), len(want))
	}
	for i := range l {
		if at, behind, is := Place(l, i); at != want[i].at || behind != want[i].behind || is != want[i].is {
			t.Errorf("%d: %d, %v, %v instead of %+v", i, at, behind, is, want[i])
		}
	}
	for _, i := range append([]int{-1, -2, -len(l), len(l), len(l) + 1, 2 * len(l), 1<<32 + 1}, far...) {
		if at, behind, is := Place(l, i); at != 0 || behind || is {
			t.Error(i, at, behind, is)
		}
		for _, none := range [][]api.Call{nil, {}} {
			if at, behind, is := Place(none, i); at != 0 || behind || is {
				t.Error(i, at, behind, is)
			}
		}
	}
	if at, behind, is := Place(nil, 0); at != 0 || behind || is {
		t.Error(at, behind, is)
	}
	// Neither what is answered nor the port makes a difference: a Read that is refused has a place.
	x := done(read)
	x.Ans, x.Req.Port = api.Answer{Code: api.InvalidParam}, -1
	if at, behind, is := Place([]api.Call{x}, 0); at != 3 || !behind || !is {
		t.Error(at, behind, is)
	}
	for _, op := range append(others, write) {
		for _, x := range []api.Call{done(op), open(op)} {
			if at, behind, is := Place([]api.Call{x}, 0); at != 0 || behind || is {
				t.Error(op, at, behind, is)
			}
			for _, mark := range []int{3, 4, 9} {
				if at, behind, is := Place([]api.Call{with(x, mark)}, 0); at != mark || behind || !is {
					t.Error(op, at, behind, is)
				}
			}
		}
	}
	// At moment 0.
	zero := []api.Call{with(lasts(open(poke), 0, 0, -1), 0)}
	if at, behind, is := Place(zero, 0); at != 0 || behind || !is {
		t.Error(at, behind, is)
	}
	zero = []api.Call{lasts(done(read), 0, 0, 0)}
	if at, behind, is := Place(zero, 0); at != 0 || !behind || !is {
		t.Error(at, behind, is)
	}
}

// P17.2: of the mixed calls.
func TestPlaceOfMixed(t *testing.T) {
	l := mixed()
	for i, want := range []string{"none", "at 8", "behind 8", "behind 5", "at 16", "behind 13", "at 19", "none"} {
		at, behind, is := Place(l, i)
		got := "none"
		if is {
			got = map[bool]string{false: "at ", true: "behind "}[behind] + []string{5: "5", 8: "8", 13: "13", 16: "16", 19: "19"}[at]
		} else if at != 0 || behind {
			got = "something beside false"
		}
		if got != want {
			t.Errorf("%d: %s instead of %s", i, got, want)
		}
	}
	// The Mark of the one that it Saw: below its From, at it and above it.
	for _, mark := range []int{2, 8, 9, 12, 13, 14, 15, 20} {
		l := mixed()
		l[1].To, l[1].Mark = 30, mark
		l = append(l[:4], l[5])
		if at, behind, is := Place(l, 4); at != max(13, mark) || !behind || !is {
			t.Error(mark, at, behind, is)
		}
	}
}

// odd are calls of any numbers, most of them not sound.
func odd(roll func(n int) int) (l []api.Call) {
	numbers := append([]int{-2, -1, 0, 1, 2, 3, 4, 5}, far...)
	any := func() int { return numbers[roll(len(numbers))] }
	for range roll(6) {
		l = append(l, api.Call{Part: any(), Req: api.Request{Op: []int{any(), read, write}[roll(3)], Port: any(), Data: make([]uint32, roll(3))}, Done: roll(2) == 0, From: any(), To: any(), T0: any(), T1: any(), Own0: any(), Own1: any(), Mark: any(), Ring: any(), Stamp: any(), Saw: any()})
	}
	return l
}

// R1: whatever the calls and the numbers are: each call ends, and none panics.
func TestAnything(t *testing.T) {
	roll := dice()
	for range 20000 {
		l := odd(roll)
		if got, want := Sound(l...), len(broken(l)) == 0; got && !want {
			t.Fatalf("%v, of %+v", got, l)
		}
		for _, i := range append([]int{-1, 0, 1, 2, 3, 4, 5, 6}, far...) {
			if at, behind, is := Place(l, i); !is && (at != 0 || behind) || is && (i < 0 || i >= len(l)) {
				t.Fatal(i, at, behind, is)
			}
			if got, want := all(Of(l, i)), ofPart(l, i); !same(got, want) {
				t.Fatalf("%d: %+v instead of %+v", i, got, want)
			}
		}
		for _, x := range l {
			for _, y := range l {
				if Ahead(x, y) != (x.Done && y.From > x.To) {
					t.Fatalf("%+v and %+v", x, y)
				}
			}
		}
	}
	if Ahead(api.Call{}, api.Call{}) || Sound(api.Call{}) || Sound(make([]api.Call, 3)...) {
		t.Error("of zeroes")
	}
}

// R3: nil lists and empty ones are one, in calls too.
func TestNoneAndEmpty(t *testing.T) {
	a, b := mixed(), mixed()
	for i := range a {
		a[i].Req.Data, a[i].Ans.Data, b[i].Req.Data, b[i].Ans.Data = nil, nil, []uint32{}, []uint32{}
	}
	if !Sound(a...) || !Sound(b...) {
		t.Error("aren't sound")
	}
	for i := -1; i <= len(a); i++ {
		at, behind, is := Place(a, i)
		if otherAt, otherBehind, otherIs := Place(b, i); at != otherAt || behind != otherBehind || is != otherIs {
			t.Error(i)
		}
		got, other := all(Of(a, i)), all(Of(b, i))
		if len(got) != len(other) {
			t.Fatal(i, len(got), len(other))
		}
		for k := range got {
			x, y := got[k].call, other[k].call
			if got[k].place != other[k].place || x.From != y.From || len(x.Req.Data)+len(y.Req.Data)+len(x.Ans.Data)+len(y.Ans.Data) != 0 {
				t.Errorf("%+v and %+v", x, y)
			}
		}
	}
}

// room is a list with marked spare room behind it.
func room[T any](l []T, mark T) []T { return append(slices.Clone(l), mark, mark)[: len(l) : len(l)+2] }

// over writes over a list, spare room included.
func over[T any](l []T, x T) {
	l = l[:cap(l)]
	for i := range l {
		l[i] = x
	}
}

// roomy are the same calls, each list with marked spare room.
func roomy(l []api.Call) []api.Call {
	l = room(l, api.Call{Part: 1, From: -7})
	for i := range l {
		l[i].Req.Data, l[i].Ans.Data = room(l[i].Req.Data, 77), room(l[i].Ans.Data, 78)
	}
	return l
}

// everything is all that calls have, spare room included.
func everything(l []api.Call) (has []any) {
	has = append(has, len(l))
	for i, x := range l[:cap(l)] {
		if i < len(l) {
			has = append(has, len(x.Req.Data), x.Req.Data[:cap(x.Req.Data)], len(x.Ans.Data), x.Ans.Data[:cap(x.Ans.Data)])
			x.Req.Data, x.Ans.Data = nil, nil
		}
		has = append(has, x)
	}
	return has
}

// wasted writes over all that calls have, spare room included, but leaves the lists of the ones that are written over as they are.
func wasted(l []api.Call) {
	for _, x := range l {
		over(x.Req.Data, 991)
		over(x.Ans.Data, 992)
	}
	over(l, api.Call{Part: 1, From: -9, Mark: 4})
}

// R4: what is handed in isn't changed, spare room included.
func TestHandedInIsntChanged(t *testing.T) {
	roll := dice()
	for range 200 {
		plain := rolledCalls(roll, 1+roll(5), roll(90))
		if roll(3) == 0 {
			plain = bend(roll, plain)
		}
		l, before := roomy(plain), everything(roomy(plain))
		Sound(l...)
		for i := -1; i <= len(l); i++ {
			Place(l, i)
			for range Of(l, i) {
			}
		}
		for i := range l {
			Ahead(l[i], l[0])
		}
		if after := everything(l); !reflect.DeepEqual(after, before) {
			t.Fatalf("%v instead of %v", after, before)
		}
	}
}

// R4: what the caller writes behind Of into what was handed in makes no difference, ahead of going through it and in the midst of it.
func TestHandedInIsntKept(t *testing.T) {
	for p := -1; p < 4; p++ {
		l := roomy(mixed())
		it := Of(l, p)
		wasted(l)
		if got, want := all(it), ofPart(mixed(), p); !same(got, want) {
			t.Errorf("%d: %+v instead of %+v", p, got, want)
		}
		l = roomy(mixed())
		var got []item
		for i, x := range Of(l, p) {
			got = append(got, item{i, x})
			wasted(l)
		}
		if want := ofPart(mixed(), p); !same(got, want) {
			t.Errorf("%d: %+v instead of %+v", p, got, want)
		}
	}
}

// R4: what is told may be written over by the caller, spare room included: what was handed in and what is told later stay as they are.
func TestToldIsNew(t *testing.T) {
	for p := range 3 {
		l := roomy(mixed())
		before := everything(roomy(mixed()))
		it, want := Of(l, p), ofPart(mixed(), p)
		var first []item
		lists := 0
		for i, x := range it {
			lists += len(x.Req.Data) + len(x.Ans.Data)
			first = append(first, item{i, own(x)})
			over(x.Req.Data, 993)
			over(x.Ans.Data, 994)
			if i >= 5 {
				continue
			}
			for _, y := range all(it) {
				over(y.call.Req.Data, 995)
				over(y.call.Ans.Data, 996)
			}
		}
		second, third := all(it), all(Of(l, p))
		if !same(first, want) || !same(second, want) || !same(third, want) {
			t.Errorf("%d: %+v, %+v, %+v instead of %+v", p, first, second, third, want)
		}
		if after := everything(l); !reflect.DeepEqual(after, before) {
			t.Errorf("%v instead of %v", after, before)
		}
		if p < 2 && lists == 0 {
			t.Error("no list was told")
		}
	}
}

// R5: what is answered hangs on the arguments alone: not on what was asked ahead, nor on the order in which a map is gone through.
func TestHangsOnNothingElse(t *testing.T) {
	roll := dice()
	l, bent := mixed(), changed(3, func(x *api.Call) { x.Own0++ })
	for range 300 {
		other := rolledCalls(roll, 1+roll(6), roll(50))
		Sound(other...)
		Sound(bend(roll, other)...)
		Place(other, roll(9))
		for range Of(other, roll(5)) {
			break
		}
		if !Sound(l...) || Sound(bent...) {
			t.Fatal("isn't the same any more")
		}
		if at, behind, is := Place(l, 2); at != 8 || !behind || !is {
			t.Fatal(at, behind, is)
		}
		if got, want := all(Of(l, 1)), ofPart(l, 1); !same(got, want) {
			t.Fatalf("%+v", got)
		}
	}
	// Many partitions.
	var many []api.Call
	for n := range 300 {
		x := lasts(done(write), n%100, 3*n, 3*n+math.MaxInt32)
		x.To, x.Own0, x.Own1 = 3*n+2, 1+4*(n/100), 4+4*(n/100)
		if x.T1 = 2; n%100 == n {
			x.T0 = 0
		}
		many = append(many, x)
	}
	for range 20 {
		if !Sound(many...) {
			t.Fatal("aren't sound")
		}
		i := 100 + roll(200)
		wrong := slices.Clone(many)
		wrong[i].Own0--
		if Sound(wrong...) {
			t.Fatal("are sound")
		}
	}
}
