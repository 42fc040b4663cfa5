package bell

import (
	"iter"
	"math"
	"slices"
	"testing"

	"porthole/api"
)

// greatest is the document's bound, told here anew, so that a wrong one in the package is found.
const greatest = 64

// The calls have the chapter's signatures.
var (
	_ func(int) (*Set, api.Errno) = New
	_ func(*Set, int) api.Errno   = (*Set).Ring
	_ func(*Set, int) bool        = (*Set).Has
	_ func(*Set, ...int) []int    = (*Set).Take
	_ func(*Set) iter.Seq[int]    = (*Set).All
)

// made is a set of so many bells, which must be had.
func made(t *testing.T, n int) *Set {
	t.Helper()
	s, e := New(n)
	if e != api.OK || s == nil {
		t.Fatal("no set of:", n, e)
	}
	return s
}

// rung is a set of n bells of which these were rung, in their order.
func rung(t *testing.T, n int, l ...int) *Set {
	t.Helper()
	s := made(t, n)
	ring(t, s, l...)
	return s
}

func ring(t *testing.T, s *Set, l ...int) {
	t.Helper()
	for _, i := range l {
		if e := s.Ring(i); e != api.OK {
			t.Fatal("ring:", i, e)
		}
	}
}

// take tells a fault unless of l just these are taken.
func take(t *testing.T, s *Set, l []int, want ...int) {
	t.Helper()
	if got := s.Take(l...); !slices.Equal(got, want) {
		t.Error("take of:", l, got, "instead of", want)
	}
}

// same tells a fault unless, of n bells, just these are pending, by Has and by All; want is rising.
func same(t *testing.T, s *Set, n int, want ...int) {
	t.Helper()
	for i := -2; i < n+2; i++ {
		if s.Has(i) != slices.Contains(want, i) {
			t.Error("has:", i, s.Has(i), want)
		}
	}
	if got := slices.Collect(s.All()); !slices.Equal(got, want) {
		t.Error("all:", got, want)
	}
}

// upTo are the n numbers from 0 on.
func upTo(n int) []int {
	var l []int
	for i := range n {
		l = append(l, i)
	}
	return l
}

// strangers are numbers that no bell of n has.
func strangers(n int) []int {
	return []int{
		-1, -2, -n, -greatest, -greatest - 1, math.MinInt32, math.MinInt32 + 1, math.MinInt, math.MinInt + 1,
		n, n + 1, 2 * n, n + greatest, greatest, greatest + 1, 2 * greatest, 255, 256, math.MaxInt32, math.MaxInt32 + 1, 1 << 32, 1<<32 + 1, math.MaxInt - 1, math.MaxInt,
	}
}

// The chapter's example.
func TestExample(t *testing.T) {
	s := rung(t, 4, 2, 0, 2)
	take(t, s, []int{2, 1, 2}, 2)
	same(t, s, 4, 0)
}

// P4.1: the document's bound is api's.
func TestBound(t *testing.T) {
	if api.MaxBells != greatest {
		t.Error(api.MaxBells)
	}
}

// P4.1, New: each number of bells that may be, 0 and MaxBells among them; none is pending, each can be rung.
func TestNew(t *testing.T) {
	for n := 0; n <= greatest; n++ {
		s := made(t, n)
		same(t, s, n)
		take(t, s, upTo(n))
		for i := range n {
			ring(t, s, i)
			same(t, s, n, upTo(i+1)...)
		}
		for _, i := range strangers(n) {
			if i < 0 || i >= n {
				if e := s.Ring(i); e != api.ErrArg {
					t.Error("ring:", n, i, e)
				}
			}
		}
		same(t, s, n, upTo(n)...)
		take(t, s, upTo(n), upTo(n)...)
		same(t, s, n)
	}
}

// P4.1, New, R2: a number of bells that may not be: ErrArg, and no set.
func TestNewWrong(t *testing.T) {
	for _, n := range []int{-1, -2, -greatest, math.MinInt32, math.MinInt, greatest + 1, greatest + 2, 2 * greatest, 256, math.MaxInt32, 1 << 32, 1<<32 + 4, math.MaxInt} {
		if s, e := New(n); s != nil || e != api.ErrArg {
			t.Error(n, s, e)
		}
	}
}

// P4.1, Ring and Has: each bell alone, in sets of several sizes: it is pending, and no other one.
func TestRing(t *testing.T) {
	for _, n := range []int{1, 2, 3, 8, 31, 32, 33, 63, greatest} {
		for i := range n {
			same(t, rung(t, n, i), n, i)
		}
	}
}

// P4.1, Ring and Has: the first and the last bell, of a set of one and of MaxBells.
func TestFirstAndLast(t *testing.T) {
	one := rung(t, 1, 0)
	same(t, one, 1, 0)
	take(t, one, []int{0, 1, -1}, 0)
	same(t, one, 1)

	s := rung(t, greatest, greatest-1, 0)
	same(t, s, greatest, 0, greatest-1)
	take(t, s, []int{greatest - 1}, greatest-1)
	same(t, s, greatest, 0)
	take(t, s, []int{0}, 0)
	same(t, s, greatest)
}

// P4.1, Ring, R2: a bell that isn't there is answered ErrArg, and nothing is pending, or not any more, by it.
func TestRingWrong(t *testing.T) {
	for _, n := range []int{0, 1, 4, 63, greatest} {
		for _, l := range [][]int{nil, upTo(n / 2), upTo(n)} {
			s := rung(t, n, l...)
			for _, i := range strangers(n) {
				if i >= 0 && i < n {
					continue
				}
				if e := s.Ring(i); e != api.ErrArg {
					t.Error(n, i, e)
				}
				same(t, s, n, l...)
			}
			take(t, s, upTo(n), l...)
			same(t, s, n)
		}
	}
}

// P4.1, Has, R1: a bell that isn't there isn't pending, though all those that are there be.
func TestHasWrong(t *testing.T) {
	for _, n := range []int{0, 1, 4, 63, greatest} {
		s := rung(t, n, upTo(n)...)
		for _, i := range strangers(n) {
			if s.Has(i) != (i >= 0 && i < n) {
				t.Error(n, i)
			}
		}
	}
}

// P4.1, Has and All change nothing.
func TestLookingChangesNothing(t *testing.T) {
	s := rung(t, 5, 4, 1)
	for range 3 {
		for i := range 5 {
			s.Has(i)
		}
		for range s.All() {
			break
		}
		for range s.All() {
		}
	}
	same(t, s, 5, 1, 4)
	take(t, s, upTo(5), 1, 4)
}

// P4.1, Take: the order is the list's, not the bells' and not that in which they were rung.
func TestTakeOrder(t *testing.T) {
	for _, c := range []struct{ list, want, left []int }{
		{[]int{1, 3, 5, 6}, []int{1, 3, 5, 6}, nil},
		{[]int{6, 5, 3, 1}, []int{6, 5, 3, 1}, nil},
		{[]int{5, 1, 6, 3}, []int{5, 1, 6, 3}, nil},
		{[]int{7, 5, 4, 1, 0}, []int{5, 1}, []int{3, 6}},
		{[]int{6}, []int{6}, []int{1, 3, 5}},
		{[]int{0, 2, 4, 7}, nil, []int{1, 3, 5, 6}},
		{[]int{6, 2, 1, 2, 5}, []int{6, 1, 5}, []int{3}},
	} {
		s := rung(t, 8, 3, 6, 1, 5)
		take(t, s, c.list, c.want...)
		same(t, s, 8, c.left...)
		take(t, s, c.list)
		same(t, s, 8, c.left...)
	}
}

// P4.1, Take: all lists of up to four bells of three, of each set of them that may be pending: against the chapter's words, worked out anew.
func TestTakeAll(t *testing.T) {
	var lists func(l []int, room int)
	lists = func(l []int, room int) {
		for some := range 8 {
			takeOf(t, some, l)
		}
		for i := -1; i <= 3 && room > 0; i++ {
			lists(append(slices.Clone(l), i), room-1)
		}
	}
	lists(nil, 4)
}

// takeOf tells a fault unless of l just those are taken that it must be, when of three bells those are pending whose bits some has.
func takeOf(t *testing.T, some int, l []int) {
	t.Helper()
	s := made(t, 3)
	var want, left []int
	for _, i := range l {
		if i >= 0 && some>>i&1 == 1 && !slices.Contains(want, i) {
			want = append(want, i)
		}
	}
	for i := range 3 {
		if some>>i&1 == 1 {
			ring(t, s, i)
			if !slices.Contains(want, i) {
				left = append(left, i)
			}
		}
	}
	take(t, s, l, want...)
	same(t, s, 3, left...)
}

// P4.1, Take: a bell that the list names more than once is taken once, where it is named first.
func TestTakeNamedTwice(t *testing.T) {
	s := rung(t, 6, 0, 2, 4)
	take(t, s, []int{4, 4, 1, 0, 4, 1, 0, 0}, 4, 0)
	same(t, s, 6, 2)
	take(t, s, slices.Repeat([]int{2}, 1000), 2)
	same(t, s, 6)
}

// P4.1, Take: a list that is empty takes nothing.
func TestTakeNothing(t *testing.T) {
	s := rung(t, 3, 0, 2)
	take(t, s, nil)
	take(t, s, []int{})
	if got := s.Take(); len(got) != 0 {
		t.Error(got)
	}
	same(t, s, 3, 0, 2)
}

// P4.1, Take, R1: bells that aren't there aren't pending, so they aren't taken; those beside them are.
func TestTakeWrong(t *testing.T) {
	for _, n := range []int{0, 1, 4, 63, greatest} {
		var l, want []int
		for k, i := range strangers(n) {
			if i < 0 || i >= n {
				l = append(l, i)
			}
			if k < n {
				l, want = append(l, k), append(want, k)
			}
		}
		s := rung(t, n, upTo(n)...)
		take(t, s, l, want...)
		same(t, s, n, upTo(n)[len(want):]...)
	}
}

// P4.1, Take: what was taken can be rung anew, and taken anew.
func TestTakeAgain(t *testing.T) {
	s := made(t, 4)
	for range 5 {
		ring(t, s, 3, 1)
		take(t, s, []int{1, 3, 2}, 1, 3)
		same(t, s, 4)
		take(t, s, []int{1, 3, 2})
		ring(t, s, 1)
		same(t, s, 4, 1)
		take(t, s, upTo(4), 1)
		same(t, s, 4)
	}
}

// P4.2: All of each set of six bells, whatever the order in which they were rung: rising, each once.
func TestAll(t *testing.T) {
	for some := range 64 {
		up, down := made(t, 6), made(t, 6)
		var want []int
		for i := range 6 {
			if some>>i&1 == 1 {
				ring(t, up, i)
				want = append(want, i)
			}
			if some>>(5-i)&1 == 1 {
				ring(t, down, 5-i)
			}
		}
		same(t, up, 6, want...)
		same(t, down, 6, want...)
	}
}

// P4.2: All of as many bells as there may be.
func TestAllOfMost(t *testing.T) {
	s := made(t, greatest)
	l := upTo(greatest)
	slices.Reverse(l)
	ring(t, s, l...)
	same(t, s, greatest, upTo(greatest)...)
	take(t, s, l, l...)
	same(t, s, greatest)
}

// P4.2: All tells nothing more when it was asked to stop, be it at the first, at one within, or at the last one; and takes nothing by it.
func TestAllStops(t *testing.T) {
	l := []int{0, 1, 3, 6, 7}
	s := rung(t, 8, l...)
	for stop := 1; stop <= len(l); stop++ {
		var got []int
		s.All()(func(i int) bool {
			got = append(got, i)
			return len(got) < stop
		})
		if !slices.Equal(got, l[:stop]) {
			t.Error(stop, got)
		}
	}
	same(t, s, 8, l...)
}

// P4.2, R6: one iterator is gone through from its beginning on each time: twice, behind a stop, and within itself.
func TestAllTwice(t *testing.T) {
	want := []int{1, 2, 5}
	all := rung(t, 6, want...).All()
	for range 2 {
		if got := slices.Collect(all); !slices.Equal(got, want) {
			t.Error("again:", got)
		}
	}
	for _, stop := range want {
		for i := range all {
			if i == stop {
				break
			}
		}
		if got := slices.Collect(all); !slices.Equal(got, want) {
			t.Error("behind a stop:", stop, got)
		}
	}
	var outer []int
	for i := range all {
		outer = append(outer, i)
		if got := slices.Collect(all); !slices.Equal(got, want) {
			t.Error("within:", got)
		}
	}
	if !slices.Equal(outer, want) {
		t.Error("outer:", outer)
	}
}

// P4.2, R6: an iterator tells what there is when it is gone through, not what there was when it was asked for.
func TestAllTellsWhatThereIs(t *testing.T) {
	s := made(t, 5)
	all := s.All()
	tells := func(want ...int) {
		t.Helper()
		if got := slices.Collect(all); !slices.Equal(got, want) {
			t.Error(got, want)
		}
	}
	tells()
	ring(t, s, 4, 0)
	tells(0, 4)
	take(t, s, []int{0}, 0)
	tells(4)
	ring(t, s, 2)
	tells(2, 4)
	take(t, s, upTo(5), 2, 4)
	tells()
	ring(t, s, 1)
	tells(1)
}

// P4.2: what is rung and taken while the bells are gone through changes the set; each is told just if it is pending when it is reached.
func TestAllWhileChanging(t *testing.T) {
	for _, c := range []struct {
		name        string
		do          func(s *Set, i int)
		told, after []int
	}{
		{"take it", func(s *Set, i int) { s.Take(i) }, []int{1, 3, 5}, nil},
		{"take all", func(s *Set, i int) { s.Take(upTo(8)...) }, []int{1}, nil},
		{"take the one behind", func(s *Set, i int) { s.Take(i + 2) }, []int{1, 5}, []int{1, 5}},
		{"take those ahead", func(s *Set, i int) { s.Take(upTo(i)...) }, []int{1, 3, 5}, []int{5}},
		{"ring it anew", func(s *Set, i int) { s.Take(i); s.Ring(i) }, []int{1, 3, 5}, []int{1, 3, 5}},
		{"ring the one ahead", func(s *Set, i int) { s.Ring(i - 1) }, []int{1, 3, 5}, []int{0, 1, 2, 3, 4, 5}},
		{"ring the one behind", func(s *Set, i int) { s.Ring(i + 1) }, []int{1, 2, 3, 4, 5, 6, 7}, []int{1, 2, 3, 4, 5, 6, 7}},
	} {
		s := rung(t, 8, 5, 1, 3)
		var got []int
		for i := range s.All() {
			got = append(got, i)
			c.do(s, i)
		}
		if !slices.Equal(got, c.told) {
			t.Error(c.name, got)
		}
		same(t, s, 8, c.after...)
	}
}

// P4.2, R1: All of nothing tells nothing, and isn't nil: of a set of no bells, of one that is new, and of one whose bells were taken.
func TestAllOfNothing(t *testing.T) {
	taken := rung(t, 3, 0, 1, 2)
	take(t, taken, upTo(3), 0, 1, 2)
	for _, s := range []*Set{made(t, 0), made(t, 3), taken} {
		if s.All() == nil {
			t.Fatal("nil")
		}
		for i := range s.All() {
			t.Error(i)
		}
	}
}

// P4.3: however often a bell was rung, it is pending as one, and is taken once.
func TestRungOften(t *testing.T) {
	for _, often := range []int{1, 2, 3, 4, 100, 1 << 16} {
		s := made(t, 4)
		for range often {
			ring(t, s, 3)
			ring(t, s, 1)
		}
		same(t, s, 4, 1, 3)
		take(t, s, []int{3, 3}, 3)
		same(t, s, 4, 1)
		take(t, s, []int{1, 3}, 1)
		same(t, s, 4)
		take(t, s, upTo(4))
	}
}

// P4.3: a long row of rings and takes in no plain pattern, each held against a count that is kept beside: of each bell as many takes as there were first rings behind a take.
func TestAgainstCounts(t *testing.T) {
	for _, n := range []int{1, 2, 5, 33, greatest} {
		s := made(t, n)
		pending := map[int]bool{}
		dice := uint32(n)
		next := func(below int) int {
			dice = dice*1664525 + 1013904223
			return int(dice >> 8 % uint32(below))
		}
		for range 1500 {
			if i := next(n); next(3) > 0 {
				ring(t, s, i)
				pending[i] = true
			} else {
				var l, want []int
				for range next(4) {
					l = append(l, next(n+2)-1)
				}
				for _, i := range l {
					if pending[i] {
						delete(pending, i)
						want = append(want, i)
					}
				}
				take(t, s, l, want...)
			}
			var left []int
			for i := range n {
				if pending[i] {
					left = append(left, i)
				}
			}
			same(t, s, n, left...)
		}
	}
}

// R4: the list that is handed in isn't changed, nor its spare room.
func TestTakeChangesNoList(t *testing.T) {
	s := rung(t, 6, 0, 1, 2, 3)
	whole := []int{5, 3, 3, 1, -1, 9, 0, 7, 7, 7}
	was := slices.Clone(whole)
	take(t, s, whole[:7], 3, 1, 0)
	if !slices.Equal(whole, was) {
		t.Error(whole)
	}
}

// R4: what is written into the list that was handed in, or into what was answered and its spare room, makes no difference.
func TestWrittenOver(t *testing.T) {
	s := rung(t, 6, 0, 1, 2, 3, 4)
	l := []int{3, 1}
	first := s.Take(l...)
	scrawl(l)
	same(t, s, 6, 0, 2, 4)
	if !slices.Equal(first, []int{3, 1}) {
		t.Error("the list is handed back:", first)
	}

	l[0], l[1] = 4, 2
	second := s.Take(l...)
	scrawl(first)
	if !slices.Equal(second, []int{4, 2}) || !slices.Equal(l, []int{4, 2}) {
		t.Error("an earlier answer is shared:", second, l)
	}
	same(t, s, 6, 0)

	ring(t, s, 5)
	third := s.Take(5)
	scrawl(second)
	if !slices.Equal(third, []int{5}) {
		t.Error("an earlier answer is shared:", third)
	}
	scrawl(third)
	same(t, s, 6, 0)
	take(t, s, upTo(6), 0)
}

// scrawl writes over a list, spare room included.
func scrawl(l []int) {
	for i := range l[:cap(l)] {
		l[:cap(l)][i] = -7
	}
}

// R5: sets share nothing, be they of one size or of several; a set that was refused leaves nothing behind for the next one.
func TestTwoSets(t *testing.T) {
	a, b := rung(t, 3, 0), rung(t, 3, 2)
	New(-1)
	New(greatest + 1)
	c := made(t, 4)
	same(t, a, 3, 0)
	same(t, b, 3, 2)
	same(t, c, 4)
	ring(t, c, 0, 3)
	take(t, a, upTo(3), 0)
	same(t, b, 3, 2)
	same(t, c, 4, 0, 3)
	all := b.All()
	ring(t, a, 1)
	if got := slices.Collect(all); !slices.Equal(got, []int{2}) {
		t.Error(got)
	}
}
