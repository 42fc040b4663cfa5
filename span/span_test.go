package span

import (
	"math"
	"slices"
	"testing"

	"porthole/api"
)

// last is the document's bound, told here anew, so that a wrong one in the package is found.
const last = 2147483647

func of(from, size int) api.Span { return api.Span{From: from, Size: size} }

// wrong are spans that aren't right, by each of the three conditions, and where From and Size together would wrap round.
func wrong() []api.Span {
	return []api.Span{
		of(-1, 0), of(-1, 1), of(-1, 3), of(-5, 9), of(math.MinInt, 0), of(math.MinInt, math.MaxInt), of(math.MinInt, math.MinInt),
		of(0, -1), of(3, -1), of(3, math.MinInt), of(-1, -1),
		of(last+1, 0), of(last+1, 1), of(last+1, -1), of(math.MaxInt, 0), of(math.MaxInt, 1), of(math.MaxInt, math.MaxInt),
		of(0, last+1), of(1, last), of(2, last-1), of(last, 1), of(last-1, 2), of(last, last), of(0, math.MaxInt), of(1, math.MaxInt), of(last, math.MaxInt),
	}
}

// right are spans that are right, of Size 0 and at the bounds among them.
func right() []api.Span {
	return []api.Span{
		of(0, 0), of(0, 1), of(0, 4), of(3, 0), of(3, 2), of(4, 1), of(5, 9),
		of(0, last), of(1, last-1), of(2, last-2), of(last-1, 0), of(last-1, 1), of(last, 0), of(last-2, 2),
	}
}

// small are all spans of small numbers, some of which aren't right.
func small() []api.Span {
	var l []api.Span
	for from := -2; from <= 5; from++ {
		for size := -2; size <= 4; size++ {
			l = append(l, of(from, size))
		}
	}
	return l
}

// addresses are what a small span has, told without the package's calls.
func addresses(s api.Span) []int {
	var l []int
	if s.From < 0 {
		return nil
	}
	for i := 0; i < s.Size; i++ {
		l = append(l, s.From+i)
	}
	return l
}

// P1.1: Right.
func TestRight(t *testing.T) {
	for _, s := range right() {
		if !Right(s) {
			t.Error("is right:", s)
		}
	}
	for _, s := range wrong() {
		if Right(s) {
			t.Error("isn't right:", s)
		}
	}
}

// P1.1: Has, held against each small span's addresses.
func TestHas(t *testing.T) {
	for _, s := range small() {
		for at := -4; at <= 12; at++ {
			if Has(s, at) != slices.Contains(addresses(s), at) {
				t.Error(s, at)
			}
		}
	}
}

// P1.1: Has, at the bounds.
func TestHasAtTheBounds(t *testing.T) {
	for _, c := range []struct {
		s    api.Span
		at   int
		want bool
	}{
		{of(0, last), 0, true},
		{of(0, last), last - 1, true},
		{of(0, last), last, false},
		{of(0, last), -1, false},
		{of(last-1, 1), last - 1, true},
		{of(last-1, 1), last - 2, false},
		{of(last-1, 1), last, false},
		{of(last, 0), last, false},
		{of(0, last), math.MaxInt, false},
		{of(0, last), math.MinInt, false},
		{of(3, 2), math.MaxInt, false},
		{of(3, 2), math.MinInt, false},
		{of(3, 2), math.MinInt + 3, false},
	} {
		if Has(c.s, c.at) != c.want {
			t.Error(c)
		}
	}
}

// P1.1: a span that isn't right has no address, so it meets none, and is in all.
func TestWrongSpansHaveNothing(t *testing.T) {
	for _, s := range wrong() {
		for _, at := range []int{math.MinInt, -5, -1, 0, 1, 2, 3, last - 1, last, last + 1, math.MaxInt - 1, math.MaxInt, s.From, s.From + s.Size, s.From + s.Size - 1} {
			if Has(s, at) {
				t.Error("has:", s, at)
			}
		}
		for _, o := range slices.Concat(right(), wrong()) {
			if Meets(s, o) || Meets(o, s) {
				t.Error("meets:", s, o)
			}
			if !In(s, o) {
				t.Error("is in:", s, o)
			}
			if In(o, s) != (!Right(o) || o.Size == 0) {
				t.Error("in it:", o, s)
			}
			if !Apart(s, o, s) {
				t.Error("apart:", s, o)
			}
		}
		for at := range All(s, s) {
			t.Fatal("told:", s, at)
		}
	}
}

// P1.1: Meets and In, held against each two small spans' addresses.
func TestMeetsAndIn(t *testing.T) {
	for _, a := range small() {
		for _, b := range small() {
			meets, in := false, true
			for _, at := range addresses(a) {
				both := slices.Contains(addresses(b), at)
				meets = meets || both
				in = in && both
			}
			if Meets(a, b) != meets {
				t.Error("meets:", a, b)
			}
			if In(a, b) != in {
				t.Error("in:", a, b)
			}
		}
	}
}

// P1.1: Meets and In, at the bounds, and the chapter's examples.
func TestMeetsAndInAtTheBounds(t *testing.T) {
	for _, c := range []struct {
		a, b          api.Span
		meets, ab, ba bool
	}{
		{of(3, 2), of(4, 1), true, false, true},
		{of(3, 2), of(5, 9), false, false, false},
		{of(0, last), of(0, last), true, true, true},
		{of(0, last), of(last-1, 1), true, false, true},
		{of(0, last), of(last, 0), false, false, true},
		{of(0, last-1), of(last-1, 1), false, false, false},
		{of(1, last-1), of(0, 1), false, false, false},
		{of(1, last-1), of(0, 2), true, false, false},
		{of(1, last-1), of(0, last), true, true, false},
		{of(last, 0), of(last, 0), false, true, true},
		{of(9, 0), of(0, 3), false, true, false},
		{of(1, 0), of(0, 3), false, true, false},
	} {
		if Meets(c.a, c.b) != c.meets || Meets(c.b, c.a) != c.meets {
			t.Error("meets:", c)
		}
		if In(c.a, c.b) != c.ab || In(c.b, c.a) != c.ba {
			t.Error("in:", c)
		}
	}
}

// P1.1: Apart, held against each three small spans' addresses: none comes twice.
func TestApart(t *testing.T) {
	for _, a := range small() {
		for _, b := range small() {
			for _, c := range small() {
				all := slices.Concat(addresses(a), addresses(b), addresses(c))
				slices.Sort(all)
				if Apart(a, b, c) != (len(slices.Compact(slices.Clone(all))) == len(all)) {
					t.Error(a, b, c)
				}
			}
		}
	}
}

// P1.1: Apart of few and of many, of one span at two places, and at the bounds.
func TestApartOfMany(t *testing.T) {
	var many []api.Span
	for i := range 5000 {
		many = append(many, of((4999-i)*3, 3))
	}
	for _, c := range []struct {
		l    []api.Span
		want bool
	}{
		{nil, true},
		{[]api.Span{of(3, 2)}, true},
		{[]api.Span{of(-1, 2)}, true},
		{[]api.Span{of(3, 2), of(3, 2)}, false},
		{[]api.Span{of(3, 0), of(3, 0)}, true},
		{[]api.Span{of(3, 2), of(4, 0), of(5, 1)}, true},
		{[]api.Span{of(0, 9), of(9, 1), of(2, 1)}, false},
		{[]api.Span{of(5, 1), of(0, 9), of(1, 1)}, false},
		{[]api.Span{of(0, last-1), of(last-1, 1), of(last, 0)}, true},
		{[]api.Span{of(last-1, 1), of(0, last)}, false},
		{many, true},
		{append(slices.Clone(many), of(15000, 1)), true},
		{append(slices.Clone(many), of(7000, 1)), false},
	} {
		if Apart(c.l...) != c.want {
			t.Error(c.want, len(c.l), c.l[:min(len(c.l), 3)])
		}
	}
}

// P1.2: All, span by span in the list's order, whether they meet or not.
func TestAll(t *testing.T) {
	for _, c := range []struct {
		l    []api.Span
		want []int
	}{
		{nil, nil},
		{[]api.Span{of(3, 2)}, []int{3, 4}},
		{[]api.Span{of(7, 2), of(0, 3)}, []int{7, 8, 0, 1, 2}},
		{[]api.Span{of(1, 2), of(2, 2), of(1, 2)}, []int{1, 2, 2, 3, 1, 2}},
		{[]api.Span{of(4, 0)}, nil},
		{[]api.Span{of(4, 0), of(-1, 5), of(9, 1), of(2, -1), of(6, 0), of(0, 1)}, []int{9, 0}},
		{[]api.Span{of(1, math.MaxInt), of(last-2, 2), of(last, 1), of(last, 0)}, []int{last - 2, last - 1}},
	} {
		if got := slices.Collect(All(c.l...)); !slices.Equal(got, c.want) {
			t.Error(c.l, got)
		}
	}
}

// P1.2, R6: an iterator is gone through from its beginning on each time, in itself too.
func TestAllTwice(t *testing.T) {
	seq := All(of(7, 2), of(0, 2))
	want := []int{7, 8, 0, 1}
	for range 2 {
		if got := slices.Collect(seq); !slices.Equal(got, want) {
			t.Error(got)
		}
	}
	for stop := range want {
		for at := range seq {
			if at == want[stop] {
				break
			}
		}
		if got := slices.Collect(seq); !slices.Equal(got, want) {
			t.Error("behind a stop:", got)
		}
	}
	var outer []int
	for at := range seq {
		outer = append(outer, at)
		if got := slices.Collect(seq); !slices.Equal(got, want) {
			t.Error("within:", got)
		}
	}
	if !slices.Equal(outer, want) {
		t.Error("outer:", outer)
	}
}

// P1.2: All tells nothing more when it was asked to stop, be it within a span, at its end, or in a later span.
func TestAllStops(t *testing.T) {
	for stop := 1; stop <= 5; stop++ {
		told := 0
		All(of(3, 2), of(8, 0), of(0, 3))(func(int) bool {
			told++
			return told < stop
		})
		if told != stop {
			t.Error(stop, told)
		}
	}
	at := 0
	for at = range All(of(5, last-5), of(0, last)) {
		if at == 9 {
			break
		}
	}
	if at != 9 {
		t.Error(at)
	}
}

// R1: an iterator that is told is never nil.
func TestAllIsNeverNil(t *testing.T) {
	if All() == nil || All(nil...) == nil || All(of(-1, -1)) == nil {
		t.Error("nil")
	}
}

// R4: what is handed in isn't changed, spare room included.
func TestHandedInIsntChanged(t *testing.T) {
	room := []api.Span{of(9, 1), of(3, 0), of(-1, 4), of(5, 2), of(0, 3), of(8, 8), of(1, 1)}
	before := slices.Clone(room)
	Apart(room[:5]...)
	for range All(room[:5]...) {
	}
	if !slices.Equal(room, before) {
		t.Error(room)
	}
}

// R4: what is written behind the call into what was handed in makes no difference, not even while the iterator is gone through.
func TestHandedInIsntKept(t *testing.T) {
	l := []api.Span{of(3, 2), of(7, 1)}
	seq := All(l...)
	l[0], l[1] = of(0, 9), of(1, 1)
	if got := slices.Collect(seq); !slices.Equal(got, []int{3, 4, 7}) {
		t.Error(got)
	}
	seq = All(l...)
	var got []int
	for at := range seq {
		got = append(got, at)
		l[1] = of(40, 4)
	}
	if !slices.Equal(got, []int{0, 1, 2, 3, 4, 5, 6, 7, 8, 1}) {
		t.Error(got)
	}
}
