package fifo

import (
	"iter"
	"math"
	"slices"
	"testing"

	"porthole/api"
)

// greatest is the document's bound, told here anew, so that a wrong one in the package is found.
const greatest = 4096

// The calls have the chapter's signatures, whatever the type.
var (
	_ func(int) (*Row[string], api.Errno)       = New[string]
	_ func(*Row[string], string) api.Errno      = (*Row[string]).Put
	_ func(*Row[string]) (string, api.Errno)    = (*Row[string]).Take
	_ func(*Row[string]) int                    = (*Row[string]).Len
	_ func(*Row[[2]uint8]) iter.Seq[[2]uint8]   = (*Row[[2]uint8]).All
	_ func(int) (*Row[func() error], api.Errno) = New[func() error]
)

// made is a row with room for so many, which must be had.
func made[T any](t *testing.T, most int) *Row[T] {
	t.Helper()
	r, e := New[T](most)
	if e != api.OK || r == nil {
		t.Fatal("no row with room for:", most, e)
	}
	return r
}

// holding is a row with room for most that has these.
func holding[T any](t *testing.T, most int, l ...T) *Row[T] {
	t.Helper()
	r := made[T](t, most)
	put(t, r, l...)
	return r
}

func put[T any](t *testing.T, r *Row[T], l ...T) {
	t.Helper()
	for _, x := range l {
		if e := r.Put(x); e != api.OK {
			t.Fatal("put:", x, e)
		}
	}
}

// full tells a fault unless x isn't put.
func full[T any](t *testing.T, r *Row[T], x T) {
	t.Helper()
	if e := r.Put(x); e != api.NotAvailable {
		t.Error("put into a full row:", x, e)
	}
}

func take[T comparable](t *testing.T, r *Row[T], want ...T) {
	t.Helper()
	for _, x := range want {
		if got, e := r.Take(); got != x || e != api.OK {
			t.Fatal("take:", got, e, "instead of", x)
		}
	}
}

// empty tells a fault unless nothing is taken, and nothing told beside it.
func empty[T comparable](t *testing.T, r *Row[T]) {
	t.Helper()
	var none T
	if got, e := r.Take(); got != none || e != api.NotAvailable {
		t.Error("take from an empty row:", got, e)
	}
}

// same tells a fault unless Len and All tell just these.
func same[T comparable](t *testing.T, r *Row[T], want ...T) {
	t.Helper()
	if r.Len() != len(want) {
		t.Error("len:", r.Len(), len(want))
	}
	if got := slices.Collect(r.All()); !slices.Equal(got, want) {
		t.Error("all:", len(got), len(want), got[:min(len(got), 9)], want[:min(len(want), 9)])
	}
}

// rising are n numbers, none of which is 0, from the first one on.
func rising(first, n int) []int {
	l := make([]int, n)
	for i := range l {
		l[i] = first + i
	}
	return l
}

// P3.1: New makes an empty row with room for so many, not for one more, at the bounds too.
func TestNew(t *testing.T) {
	for _, most := range []int{1, 2, 3, 7, 8, 64, 255, 256, 257, 1000, greatest - 1, greatest} {
		r := made[int](t, most)
		same(t, r)
		empty(t, r)
		put(t, r, rising(1, most)...)
		same(t, r, rising(1, most)...)
		full(t, r, -1)
		same(t, r, rising(1, most)...)
		take(t, r, rising(1, most)...)
		same(t, r)
		empty(t, r)
	}
}

// P3.1: New of a room that may not be: no row, whatever the type.
func TestNewOfWrongRooms(t *testing.T) {
	for _, most := range []int{
		0, -1, -2, -greatest, -greatest - 1, math.MinInt16, math.MinInt32, math.MinInt, math.MinInt + 1, math.MinInt + greatest,
		greatest + 1, greatest + 2, 2 * greatest, 1 << 16, math.MaxInt32, 1 << 32, 1<<32 + 1, 1<<32 + greatest, math.MaxInt - 1, math.MaxInt,
	} {
		if r, e := New[int](most); r != nil || e != api.ErrArg {
			t.Error("numbers:", most, r != nil, e)
		}
		if r, e := New[string](most); r != nil || e != api.ErrArg {
			t.Error("texts:", most, r != nil, e)
		}
		if r, e := New[struct{}](most); r != nil || e != api.ErrArg {
			t.Error("nothings:", most, r != nil, e)
		}
		if r, e := New[*[1 << 17]uint64](most); r != nil || e != api.ErrArg {
			t.Error("pointers:", most, r != nil, e)
		}
	}
}

// P3.1: the chapter's example: of two, 1, 2 are put, 3 isn't; 1 is taken.
func TestExample(t *testing.T) {
	r := holding(t, 2, 1, 2)
	full(t, r, 3)
	take(t, r, 1)
	same(t, r, 2)
}

// P3.1: a row of room 1: each put but the first one is refused till what was put is taken.
func TestRoomOfOne(t *testing.T) {
	r := made[int](t, 1)
	for x := 1; x <= 5000; x++ {
		empty(t, r)
		put(t, r, x)
		full(t, r, -x)
		same(t, r, x)
		take(t, r, x)
		same(t, r)
	}
	empty(t, r)
}

// P3.1: a full row has room for one as soon as one is taken, and just for one.
func TestFullAndTaken(t *testing.T) {
	for _, most := range []int{1, 2, 3, 5, 64, greatest} {
		r := holding(t, most, rising(1, most)...)
		for i := 1; i <= 5; i++ {
			full(t, r, -1)
			take(t, r, i)
			put(t, r, most+i)
			full(t, r, -1)
			if r.Len() != most {
				t.Error("len:", most, r.Len())
			}
		}
		same(t, r, rising(6, most)...)
	}
}

// P3.1, R2: what is refused leaves nothing behind: neither puts into a full row nor takes from an empty one.
func TestRefusedLeavesNothing(t *testing.T) {
	r := made[string](t, 2)
	for range 3 {
		for range 5 {
			empty(t, r)
		}
		same(t, r)
		put(t, r, "a", "b")
		for range 5 {
			full(t, r, "c")
		}
		same(t, r, "a", "b")
		take(t, r, "a", "b")
	}
	empty(t, r)
}

// P3.1: a zero value is put and taken as any other one is.
func TestZeroValues(t *testing.T) {
	r := holding(t, 3, 0, 5, 0)
	full(t, r, 0)
	same(t, r, 0, 5, 0)
	take(t, r, 0, 5, 0)
	empty(t, r)
	texts := holding(t, 2, "", "")
	same(t, texts, "", "")
	take(t, texts, "", "")
	empty(t, texts)
}

// goes puts, refuses and takes three of one type, by way of a row of room 2.
func goes[T comparable](t *testing.T, a, b, c T) {
	t.Helper()
	r := made[T](t, 2)
	same(t, r)
	empty(t, r)
	put(t, r, a, b)
	full(t, r, c)
	same(t, r, a, b)
	take(t, r, a)
	put(t, r, c)
	full(t, r, a)
	same(t, r, b, c)
	take(t, r, b, c)
	same(t, r)
	empty(t, r)
}

// P3.1, P3.2: rows are of any type: numbers, texts, bools, structs, arrays, pointers, interfaces, channels, and what has no size.
func TestTypes(t *testing.T) {
	type pair struct {
		at   int
		name string
	}
	goes(t, 1, 2, 3)
	goes(t, uint8(255), uint8(0), uint8(255))
	goes(t, uint64(math.MaxUint64), uint64(0), uint64(7))
	goes(t, 0.5, math.Inf(1), -0.25)
	goes(t, complex(1, 2), complex(0, -1), complex(3, 0))
	goes(t, "a", "", "a longer text")
	goes(t, true, false, true)
	goes(t, pair{1, "a"}, pair{}, pair{3, "c"})
	goes(t, [3]uint32{1, 2, 3}, [3]uint32{}, [3]uint32{4, 5, 6})
	goes(t, struct{}{}, struct{}{}, struct{}{})
	goes(t, &pair{1, "a"}, nil, &pair{1, "a"})
	goes[any](t, 1, nil, "c")
	goes[error](t, api.ErrArg, nil, api.OK)
	goes(t, make(chan int), nil, make(chan int))
	goes(t, api.Item{Kind: api.Effect, Of: 3}, api.Item{}, api.Item{Kind: api.Ring, Of: -1})
}

// P3.1, P3.2: rows of what can't be compared: slices, maps, functions, and rows.
func TestTypesThatCantBeCompared(t *testing.T) {
	words := holding(t, 3, []uint32{1, 2}, nil, []uint32{3})
	if e := words.Put([]uint32{4}); e != api.NotAvailable || words.Len() != 3 {
		t.Error(e, words.Len())
	}
	if got := slices.Concat(slices.Collect(words.All())...); !slices.Equal(got, []uint32{1, 2, 3}) {
		t.Error(got)
	}
	for _, want := range [][]uint32{{1, 2}, nil, {3}} {
		if got, e := words.Take(); !slices.Equal(got, want) || e != api.OK {
			t.Error(got, want, e)
		}
	}
	if got, e := words.Take(); got != nil || e != api.NotAvailable {
		t.Error(got, e)
	}
	calls := holding(t, 2, func() int { return 4 }, func() int { return 5 })
	for _, want := range []int{4, 5} {
		if f, e := calls.Take(); e != api.OK || f() != want {
			t.Error(want, e)
		}
	}
	if f, e := calls.Take(); f != nil || e != api.NotAvailable {
		t.Error(f != nil, e)
	}
	maps := holding(t, 1, map[string]int{"a": 1})
	if m, e := maps.Take(); e != api.OK || m["a"] != 1 {
		t.Error(m, e)
	}
	rows := holding(t, 2, holding(t, 1, "in"), nil)
	if r, e := rows.Take(); e != api.OK || r.Len() != 1 {
		t.Error(e)
	} else {
		take(t, r, "in")
	}
}

// P3.1, R1: the greatest room is had for great items too, of which few are put.
func TestGreatItems(t *testing.T) {
	r := made[[1 << 17]uint64](t, greatest)
	var x [1 << 17]uint64
	for i := range uint64(2) {
		x[0], x[1<<17-1] = i+1, i+5
		if e := r.Put(x); e != api.OK {
			t.Fatal(e)
		}
	}
	for i := range uint64(2) {
		if got, e := r.Take(); e != api.OK || got[0] != i+1 || got[1<<17-1] != i+5 {
			t.Error(i, e)
		}
	}
	if _, e := r.Take(); e != api.NotAvailable || r.Len() != 0 {
		t.Error(e, r.Len())
	}
}

// P3.2: All of a row in each of its fillings, wherever in its memory the first one stands; none but those in it.
func TestAll(t *testing.T) {
	for most := 1; most <= 9; most++ {
		for gone := 0; gone <= 2*most; gone++ {
			for n := 0; n <= most; n++ {
				r := made[int](t, most)
				for x := range gone {
					put(t, r, -x)
					take(t, r, -x)
				}
				put(t, r, rising(1, n)...)
				same(t, r, rising(1, n)...)
			}
		}
	}
}

// P3.2: All changes nothing, be it gone through whole or stopped.
func TestAllChangesNothing(t *testing.T) {
	r := holding(t, 4, 6, 7, 8)
	for range 3 {
		for range r.All() {
		}
		for range r.All() {
			break
		}
		same(t, r, 6, 7, 8)
	}
	put(t, r, 9)
	full(t, r, 10)
	take(t, r, 6, 7, 8, 9)
	empty(t, r)
}

// P3.2: All tells nothing more when it was asked to stop, be it at the first, at one within, or at the last one.
func TestAllStops(t *testing.T) {
	l := rising(3, 5)
	r := holding(t, 8, l...)
	for stop := 1; stop <= len(l); stop++ {
		var got []int
		r.All()(func(x int) bool {
			got = append(got, x)
			return len(got) < stop
		})
		if !slices.Equal(got, l[:stop]) {
			t.Error(stop, got)
		}
	}
	same(t, r, l...)
}

// P3.2, R6: one iterator is gone through from its beginning on each time: twice, behind a stop, and within itself.
func TestAllTwice(t *testing.T) {
	r := holding(t, 3, "x", "a", "b")
	take(t, r, "x")
	put(t, r, "c")
	want := []string{"a", "b", "c"}
	all := r.All()
	for range 2 {
		if got := slices.Collect(all); !slices.Equal(got, want) {
			t.Error("again:", got)
		}
	}
	for _, stop := range want {
		for x := range all {
			if x == stop {
				break
			}
		}
		if got := slices.Collect(all); !slices.Equal(got, want) {
			t.Error("behind a stop:", stop, got)
		}
	}
	var outer []string
	for x := range all {
		outer = append(outer, x)
		if got := slices.Collect(all); !slices.Equal(got, want) {
			t.Error("within:", got)
		}
	}
	if !slices.Equal(outer, want) {
		t.Error("outer:", outer)
	}
}

// P3.2, R6: an iterator tells what there is when it is gone through, not what there was when it was asked for.
func TestAllTellsWhatThereIs(t *testing.T) {
	r := made[int](t, 3)
	all := r.All()
	tells := func(want ...int) {
		t.Helper()
		if got := slices.Collect(all); !slices.Equal(got, want) {
			t.Error(got, want)
		}
	}
	tells()
	put(t, r, 1, 2, 3)
	tells(1, 2, 3)
	take(t, r, 1, 2)
	tells(3)
	put(t, r, 4, 5)
	tells(3, 4, 5)
	take(t, r, 3, 4, 5)
	tells()
	put(t, r, 6)
	tells(6)
}

// P3.2: what is taken and put while a row is gone through changes the row, but not what is told: those that were in it at the beginning.
func TestAllWhileChanging(t *testing.T) {
	for _, c := range []struct {
		name  string
		do    func(*Row[int])
		after []int
	}{
		{"take", func(r *Row[int]) { r.Take() }, nil},
		{"take two", func(r *Row[int]) { r.Take(); r.Take() }, nil},
		{"put", func(r *Row[int]) { r.Put(9) }, []int{1, 2, 3, 9, 9}},
		{"take and put", func(r *Row[int]) { x, _ := r.Take(); r.Put(10 * x) }, []int{10, 20, 30}},
		{"empty and put", func(r *Row[int]) {
			for r.Len() > 0 {
				r.Take()
			}
			r.Put(7)
		}, []int{7}},
	} {
		r := holding(t, 5, 1, 2, 3)
		var got []int
		for x := range r.All() {
			got = append(got, x)
			c.do(r)
		}
		if !slices.Equal(got, []int{1, 2, 3}) {
			t.Error(c.name, got)
		}
		same(t, r, c.after...)
	}
}

// P3.2, R1: All of an empty row tells nothing, and isn't nil: of one that is new, and of one that was emptied.
func TestAllOfNothing(t *testing.T) {
	r := made[int](t, 2)
	for range 2 {
		if r.All() == nil {
			t.Fatal("nil")
		}
		for x := range r.All() {
			t.Error(x)
		}
		put(t, r, 1, 2)
		take(t, r, 1, 2)
	}
}

// P3.3: puts and takes that follow each other for much longer than the row has room: all is taken, once, in order.
func TestInOrder(t *testing.T) {
	for _, most := range []int{1, 2, 3, 4, 7, 8, 100, greatest} {
		for _, had := range []int{0, 1, most / 2, most - 1} {
			r := made[int](t, most)
			next, first := 1, 1
			for ; next <= had; next++ {
				put(t, r, next)
			}
			for range 3*most + 10 {
				if r.Len() < most {
					put(t, r, next)
					next++
				} else {
					full(t, r, next)
				}
				take(t, r, first)
				first++
			}
			same(t, r, rising(first, next-first)...)
			take(t, r, rising(first, next-first)...)
			empty(t, r)
		}
	}
}

// P3.3: a long row of puts and takes in no plain pattern, each held against a list that is kept beside.
func TestAgainstAList(t *testing.T) {
	for _, most := range []int{1, 2, 3, 5, 16, 61} {
		r := made[uint32](t, most)
		var want []uint32
		dice := uint32(most)
		for i := range uint32(4000) {
			dice = dice*1664525 + 1013904223
			// The leaning changes, so that the row is full for a while, and empty for a while.
			if dice>>16%8 < 2+4*(i>>9%2) {
				e := r.Put(i)
				if len(want) == most {
					if e != api.NotAvailable {
						t.Fatal("put:", most, i, e)
					}
				} else if want = append(want, i); e != api.OK {
					t.Fatal("put:", most, i, e)
				}
			} else if len(want) == 0 {
				empty(t, r)
			} else {
				take(t, r, want[0])
				want = want[1:]
			}
			same(t, r, want...)
		}
	}
}

// P3.3: like items are each taken once.
func TestLikeItems(t *testing.T) {
	r := holding(t, 5, 7, 7, 8, 7)
	same(t, r, 7, 7, 8, 7)
	take(t, r, 7)
	same(t, r, 7, 8, 7)
	take(t, r, 7, 8)
	put(t, r, 8, 8)
	take(t, r, 7, 8, 8)
	empty(t, r)
}

// P3.3, R5: rows share nothing, be they of one type or of several.
func TestTwoRows(t *testing.T) {
	a, b, c := made[int](t, 2), made[int](t, 3), made[string](t, 2)
	put(t, a, 1)
	put(t, b, 2, 3)
	put(t, c, "d")
	put(t, a, 4)
	full(t, a, 5)
	put(t, b, 6)
	same(t, a, 1, 4)
	same(t, b, 2, 3, 6)
	same(t, c, "d")
	take(t, b, 2)
	take(t, a, 1, 4)
	empty(t, a)
	same(t, b, 3, 6)
	same(t, c, "d")
}

// R5: a row that was refused leaves nothing behind for the next one.
func TestNewBehindARefusal(t *testing.T) {
	New[int](0)
	New[int](greatest + 1)
	r := holding(t, 1, 5)
	full(t, r, 6)
	take(t, r, 5)
}

// R4: what is put is a value of its own: what is written behind the call into the variable that it came from makes no difference, nor what is written into what was taken.
func TestValues(t *testing.T) {
	r := made[[2]int](t, 3)
	x := [2]int{1, 2}
	put(t, r, x, x)
	x[0] = 9
	same(t, r, [2]int{1, 2}, [2]int{1, 2})
	got, _ := r.Take()
	got[1] = 9
	for y := range r.All() {
		y[0] = 9
	}
	same(t, r, [2]int{1, 2})
	take(t, r, [2]int{1, 2})
}
