package raw

import (
	"math"
	"slices"
	"testing"
)

// The calls have the chapter's signatures.
var (
	_ func(*Box) uint32          = (*Box).Next
	_ func(*Box, int) []uint32   = (*Box).Take
	_ func(*Box) bool            = (*Box).Done
	_ func(...[]uint32) []uint32 = Join
	_ func(int) bool             = Fit
)

// upTo are n words that are all unlike, from 1 on.
func upTo(n int) []uint32 {
	var l []uint32
	for i := range n {
		l = append(l, uint32(i)+1)
	}
	return l
}

// boxOf is a box of these words.
func boxOf(words ...uint32) *Box { return &Box{Words: slices.Clone(words)} }

// same tells a fault unless the box has just these words, and is, or isn't, short.
func same(t *testing.T, b *Box, short bool, want ...uint32) {
	t.Helper()
	if !slices.Equal(b.Words, want) || b.Short != short {
		t.Error("box:", b.Words, b.Short, "instead of", want, short)
	}
	if b.Done() != (len(want) == 0 && !short) {
		t.Error("done:", b.Done(), want, short)
	}
}

func next(t *testing.T, b *Box, want uint32) {
	t.Helper()
	if got := b.Next(); got != want {
		t.Error("next:", got, "instead of", want)
	}
}

func take(t *testing.T, b *Box, n int, want ...uint32) {
	t.Helper()
	if got := b.Take(n); !slices.Equal(got, want) {
		t.Error("take of:", n, got, "instead of", want)
	}
}

func join(t *testing.T, want []uint32, parts ...[]uint32) {
	t.Helper()
	if got := Join(parts...); !slices.Equal(got, want) {
		t.Error("join of:", parts, got, "instead of", want)
	}
}

// scrawl writes over a list, spare room included.
func scrawl(l []uint32) {
	for i := range l[:cap(l)] {
		l[:cap(l)][i] = 0xdeadbeef
	}
}

// tooMany are numbers that are above n.
func tooMany(n int) []int {
	l := []int{n + 1, n + 2, 2*n + 1, n + 256, n + 1<<16, math.MaxInt32, math.MaxInt32 + 1, 1 << 32, 1<<32 + 1, math.MaxInt - 1, math.MaxInt}
	// Those of which the lower half alone would be few enough.
	for k := range n + 1 {
		l = append(l, 1<<32+k)
	}
	return l
}

// belowNought are numbers below 0, of which some have a lower half that isn't.
var belowNought = []int{-1, -2, -3, -256, math.MinInt32, math.MinInt32 + 1, -1 << 32, -1<<32 + 1, -1<<32 + 2, math.MinInt, math.MinInt + 1, math.MinInt + 2}

// The chapter's example.
func TestExample(t *testing.T) {
	b := boxOf(7, 8)
	next(t, b, 7)
	take(t, b, 2)
	same(t, b, true, 8)
	next(t, b, 8)
	same(t, b, true)
}

// P5.1, Next: the words come one by one, in their order, and go.
func TestNext(t *testing.T) {
	for n := range 20 {
		l := upTo(n)
		b := boxOf(l...)
		for i, w := range l {
			same(t, b, false, l[i:]...)
			next(t, b, w)
		}
		same(t, b, false)
	}
}

// P5.1, Next: any word, 0 and the greatest one among them; a word 0 isn't the lack of one.
func TestNextOfAnyWord(t *testing.T) {
	l := []uint32{0, 1, math.MaxUint32, 0, 1 << 31, 1<<31 - 1, 7, 7, 0}
	b := boxOf(l...)
	for i, w := range l {
		next(t, b, w)
		same(t, b, false, l[i+1:]...)
	}
}

// P5.1, Next and Done: the last word, and behind it.
func TestNextBehindTheLast(t *testing.T) {
	b := boxOf(9)
	same(t, b, false, 9)
	next(t, b, 9)
	same(t, b, false)
	for range 3 {
		next(t, b, 0)
		same(t, b, true)
	}
}

// P5.1, R3: a box without words, be they nil or empty: it is done, till something was wanted in vain.
func TestNoWords(t *testing.T) {
	for _, b := range []func() *Box{
		func() *Box { return &Box{} },
		func() *Box { return &Box{Words: []uint32{}} },
		func() *Box { return &Box{Words: upTo(3)[:0]} },
		func() *Box { return &Box{Words: upTo(3)[3:]} },
	} {
		same(t, b(), false)

		one := b()
		next(t, one, 0)
		same(t, one, true)

		for _, n := range tooMany(0) {
			some := b()
			take(t, some, n)
			same(t, some, true)
		}

		none := b()
		take(t, none, 0)
		for _, n := range belowNought {
			take(t, none, n)
		}
		same(t, none, false)
	}
}

// P5.1, Take: of each number of words each number that there may be taken: the first ones, of which none stays.
func TestTake(t *testing.T) {
	for n := range 12 {
		for k := range n + 1 {
			l := upTo(n)
			b := boxOf(l...)
			take(t, b, k, l[:k]...)
			same(t, b, false, l[k:]...)
			take(t, b, n-k, l[k:]...)
			same(t, b, false)
		}
	}
}

// P5.1, Take: just as many as there are, and one more than there are: nothing is taken then.
func TestTakeAllAndOneMore(t *testing.T) {
	for n := range 20 {
		l := upTo(n)
		b := boxOf(l...)
		take(t, b, n+1)
		same(t, b, true, l...)

		b = boxOf(l...)
		take(t, b, n, l...)
		same(t, b, false)
		take(t, b, 1)
		same(t, b, true)
	}
}

// P5.1, Take: of many words.
func TestTakeMany(t *testing.T) {
	l := upTo(100_000)
	b := boxOf(l...)
	take(t, b, 40_000, l[:40_000]...)
	next(t, b, 40_001)
	take(t, b, 60_000)
	same(t, b, true, l[40_001:]...)
	take(t, b, 59_999, l[40_001:]...)
	same(t, b, true)
}

// P5.1, Take, R1: 0 or less: nothing, and nothing is changed by it.
func TestTakeNothing(t *testing.T) {
	for _, n := range append([]int{0}, belowNought...) {
		for _, short := range []bool{false, true} {
			b := &Box{Words: upTo(3), Short: short}
			take(t, b, n)
			same(t, b, short, upTo(3)...)
		}
	}
}

// P5.1, Take, R1: far more than there are: nothing, none is taken, and Short holds.
func TestTakeFarTooMany(t *testing.T) {
	for _, size := range []int{0, 1, 2, 5, 100} {
		for _, n := range tooMany(size) {
			b := boxOf(upTo(size)...)
			take(t, b, n)
			same(t, b, true, upTo(size)...)
		}
	}
}

// P5.1: Short stays once it holds, whatever is taken behind that; and keeps nothing from being taken.
func TestShortStays(t *testing.T) {
	b := boxOf(upTo(6)...)
	take(t, b, 7)
	same(t, b, true, upTo(6)...)
	take(t, b, 2, 1, 2)
	same(t, b, true, 3, 4, 5, 6)
	next(t, b, 3)
	take(t, b, 0)
	take(t, b, -1)
	same(t, b, true, 4, 5, 6)
	take(t, b, 4)
	take(t, b, 3, 4, 5, 6)
	same(t, b, true)
	next(t, b, 0)
	same(t, b, true)
}

// P5.1: a box that is made short is short, and its words are taken all the same.
func TestMadeShort(t *testing.T) {
	b := &Box{Words: []uint32{4, 5}, Short: true}
	next(t, b, 4)
	same(t, b, true, 5)
	take(t, b, 1, 5)
	same(t, b, true)
	same(t, &Box{Short: true}, true)
}

// P5.1: Words and Short are anybody's to read and to write: what is put there counts from then on.
func TestFieldsAreAnybodys(t *testing.T) {
	b := boxOf(1)
	next(t, b, 1)
	next(t, b, 0)
	b.Words, b.Short = []uint32{5, 6}, false
	same(t, b, false, 5, 6)
	take(t, b, 2, 5, 6)
	same(t, b, false)
	b.Words = append(b.Words, 7)
	same(t, b, false, 7)
	next(t, b, 7)
}

// P5.1, Done: each number of words, short and not; and it changes nothing.
func TestDone(t *testing.T) {
	for n := range 5 {
		for _, short := range []bool{false, true} {
			b := &Box{Words: upTo(n), Short: short}
			for range 3 {
				same(t, b, short, upTo(n)...)
			}
		}
	}
}

// P5.1: all rows of up to five calls, over up to three words, against the chapter's words, worked out anew.
func TestAllRows(t *testing.T) {
	const asNext = 100
	var rows func(did []int, room int)
	rows = func(did []int, room int) {
		for n := range 4 {
			b, left, short := boxOf(upTo(n)...), upTo(n), false
			for _, k := range did {
				many := k
				if k == asNext {
					many = 1
				}
				var want []uint32
				if short = short || many > len(left); many <= len(left) {
					want, left = left[:max(many, 0)], left[max(many, 0):]
				}
				if k == asNext {
					next(t, b, append(slices.Clone(want), 0)[0])
				} else {
					take(t, b, k, want...)
				}
				same(t, b, short, left...)
			}
		}
		for _, k := range []int{-1, 0, 1, 2, 3, asNext} {
			if room > 0 {
				rows(append(slices.Clone(did), k), room-1)
			}
		}
	}
	rows(nil, 5)
}

// P5.2, Join: no parts, one, several, and parts without words at each place among them.
func TestJoin(t *testing.T) {
	join(t, nil)
	join(t, nil, nil)
	join(t, nil, []uint32{})
	join(t, nil, nil, []uint32{}, nil)
	join(t, []uint32{5}, []uint32{5})
	join(t, upTo(9), upTo(9))
	join(t, []uint32{1, 2, 3, 4}, []uint32{1}, []uint32{2, 3}, []uint32{4})
	join(t, []uint32{4, 2, 3, 1}, []uint32{4}, []uint32{2, 3}, []uint32{1})
	join(t, []uint32{1, 2, 3}, nil, []uint32{1, 2}, []uint32{}, []uint32{3}, nil)
	join(t, []uint32{0, 0, 0, math.MaxUint32}, []uint32{0}, []uint32{0, 0}, []uint32{math.MaxUint32})
	same := upTo(3)
	join(t, []uint32{1, 2, 3, 1, 2, 3}, same, same)
}

// P5.2, Join: many parts, and long ones.
func TestJoinMany(t *testing.T) {
	var parts [][]uint32
	var want []uint32
	for i := range 300 {
		parts = append(parts, slices.Repeat([]uint32{uint32(i)}, i))
		for range i {
			want = append(want, uint32(i))
		}
	}
	join(t, want, parts...)
}

// P5.2, Fit: 0 to 2^32 - 1, and what is beside.
func TestFit(t *testing.T) {
	for _, n := range []int{0, 1, 2, 255, 256, 1<<16 - 1, 1 << 16, math.MaxInt32, math.MaxInt32 + 1, 1<<31 + 1, 1<<32 - 2, 1<<32 - 1} {
		if !Fit(n) {
			t.Error(n)
		}
	}
	for _, n := range append([]int{1 << 32, 1<<32 + 1, 1<<33 - 1, 1 << 33, 1 << 40, 1 << 48, 1 << 62, math.MaxInt - 1, math.MaxInt}, belowNought...) {
		if Fit(n) {
			t.Error(n)
		}
	}
}

// P5.3: what was joined is taken again part by part, and the box is done then; of a word less it is short.
func TestTakenPartByPart(t *testing.T) {
	dice := uint32(1)
	roll := func(below int) int {
		dice = dice*1664525 + 1013904223
		return int(dice >> 8 % uint32(below))
	}
	for range 300 {
		var parts [][]uint32
		for range roll(6) {
			var part []uint32
			for range roll(5) {
				part = append(part, uint32(roll(3)))
			}
			parts = append(parts, part)
		}
		whole := Join(parts...)
		b := &Box{Words: whole}
		for _, part := range parts {
			if len(part) == 1 {
				next(t, b, part[0])
			} else {
				take(t, b, len(part), part...)
			}
		}
		same(t, b, false)

		b = &Box{Words: whole}
		for i := range parts {
			take(t, b, len(parts[i]), parts[i]...)
			left := &Box{Words: b.Words}
			same(t, left, false, Join(parts[i+1:]...)...)
		}
		if len(whole) > 0 {
			cut := &Box{Words: whole[:len(whole)-1]}
			for _, part := range parts {
				cut.Take(len(part))
			}
			if cut.Done() || !cut.Short {
				t.Error("of a word less:", parts)
			}
		}
	}
}

// P5.3: numbers, each with so many words behind it as it tells: as configurations' words are read.
func TestCountedRows(t *testing.T) {
	b := &Box{Words: Join([]uint32{2}, []uint32{7, 8}, []uint32{0}, nil, []uint32{1}, []uint32{9})}
	take(t, b, int(b.Next()), 7, 8)
	take(t, b, int(b.Next()))
	take(t, b, int(b.Next()), 9)
	same(t, b, false)
}

// R4: what a box has is a piece of what was handed in; Next and Take write nothing into it, spare room included.
func TestNothingIsWrittenIntoWords(t *testing.T) {
	whole := upTo(8)
	b := &Box{Words: whole[1:5]}
	next(t, b, 2)
	take(t, b, 2, 3, 4)
	take(t, b, 2)
	next(t, b, 5)
	next(t, b, 0)
	take(t, b, 1)
	if !slices.Equal(whole, upTo(8)) {
		t.Error(whole)
	}
}

// R4: what Take answered is a list of its own: to write over it changes neither the box nor what was handed in nor another answer, spare room included; nor the other way round.
func TestTakenIsItsOwn(t *testing.T) {
	whole := upTo(9)
	b := &Box{Words: whole}
	first := b.Take(3)
	second := b.Take(2)
	scrawl(first)
	if !slices.Equal(second, []uint32{4, 5}) || !slices.Equal(whole, upTo(9)) {
		t.Error("by an answer:", second, whole)
	}
	same(t, b, false, 6, 7, 8, 9)
	all := b.Take(4)
	scrawl(second)
	scrawl(whole)
	if !slices.Equal(all, []uint32{6, 7, 8, 9}) {
		t.Error("by what was handed in:", all)
	}
}

// R4: what Join answered is new, of one part too: written over, the parts stay as they are, and other answers; nor is anything kept of the parts.
func TestJoinedIsNew(t *testing.T) {
	for _, parts := range [][][]uint32{
		{upTo(4)},
		{upTo(9)[:4:9]},
		{upTo(4), nil},
		{nil, upTo(4)},
		{upTo(9)[:2:9], {3, 4}},
		{{1}, upTo(4)[1:]},
	} {
		var was [][]uint32
		for _, part := range parts {
			was = append(was, slices.Clone(part[:cap(part)]))
		}
		one, other := Join(parts...), Join(parts...)
		scrawl(one)
		for i, part := range parts {
			if !slices.Equal(part[:cap(part)], was[i]) {
				t.Error("a part:", i, part[:cap(part)], was[i])
			}
		}
		for _, part := range parts {
			scrawl(part)
		}
		if !slices.Equal(other, upTo(4)) {
			t.Error(other)
		}
	}
}

// R4: the list of parts isn't changed, nor its spare room.
func TestPartsStay(t *testing.T) {
	parts := [][]uint32{{1}, {2, 3}, {4}, {5}}
	join(t, upTo(3), parts[:2]...)
	join(t, upTo(5), parts...)
	if Join(parts[2:]...)[0] != 4 {
		t.Error(parts)
	}
}

// R5: boxes share nothing, though they be of the same words.
func TestTwoBoxes(t *testing.T) {
	l := upTo(4)
	a, b := &Box{Words: l}, &Box{Words: l}
	take(t, a, 5)
	next(t, a, 1)
	same(t, b, false, 1, 2, 3, 4)
	take(t, b, 3, 1, 2, 3)
	same(t, a, true, 2, 3, 4)
	same(t, b, false, 4)
}
