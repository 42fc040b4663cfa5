package mem

import (
	"math"
	"slices"
	"testing"

	"porthole/api"
)

// most is the document's bound, told here anew, so that a wrong one in the package is found.
const most = 65536

// made is a memory of n words, which must be had.
func made(t *testing.T, n int) *Mem {
	t.Helper()
	m, e := New(n)
	if e != api.OK || m == nil {
		t.Fatal("no memory of words:", n, e)
	}
	return m
}

// filled is a memory that has these words.
func filled(t *testing.T, words ...uint32) *Mem {
	t.Helper()
	m := made(t, len(words))
	for at, w := range words {
		store(t, m, uint64(at), w)
	}
	return m
}

func store(t *testing.T, m *Mem, at uint64, w uint32) {
	t.Helper()
	if e := m.Store(at, w); e != api.OK {
		t.Fatal("store:", at, w, e)
	}
}

// told are the words that All tells; their addresses must be rising from 0 on, none left out.
func told(t *testing.T, m *Mem) []uint32 {
	t.Helper()
	var l []uint32
	for at, w := range m.All() {
		if at != len(l) {
			t.Fatal("address:", at, len(l))
		}
		l = append(l, w)
	}
	return l
}

// loaded are the words that Load answers, address by address.
func loaded(t *testing.T, m *Mem, n int) []uint32 {
	t.Helper()
	var l []uint32
	for at := range n {
		w, e := m.Load(uint64(at))
		if e != api.OK {
			t.Fatal("load:", at, e)
		}
		l = append(l, w)
	}
	return l
}

// same tells a fault unless Len, Load, All and Words all tell just these words.
func same(t *testing.T, m *Mem, want []uint32) {
	t.Helper()
	if m.Len() != len(want) {
		t.Error("len:", m.Len(), len(want))
	}
	if !slices.Equal(loaded(t, m, len(want)), want) {
		t.Error("load: unlike")
	}
	if !slices.Equal(told(t, m), want) {
		t.Error("all: unlike")
	}
	if !slices.Equal(m.Words(), want) {
		t.Error("words: unlike")
	}
}

// beyond are addresses that a memory of n words hasn't: the first such, and those which cut short, or taken with a sign, it would have.
func beyond(n int) []uint64 {
	l := []uint64{uint64(n), uint64(n) + 1, uint64(n) + 9, most, most + 1, 1 << 31, 1 << 32, 1<<32 + 1, 1 << 48, 1<<63 - 1, 1 << 63, 1<<63 + 1, math.MaxUint64 - 1, math.MaxUint64}
	for i := range n {
		l = append(l, uint64(i)+1<<16, uint64(i)+1<<32, uint64(i)+1<<63, -uint64(i)-1)
	}
	return l
}

// P2.1: New and Len, at the bounds too: a memory of n words, all 0.
func TestNew(t *testing.T) {
	for _, n := range []int{0, 1, 2, 3, 64, 255, 256, 257, 4097, most - 1, most} {
		same(t, made(t, n), make([]uint32, n))
	}
}

// P2.1: New of what may not be.
func TestNewOfWrongSizes(t *testing.T) {
	for _, n := range []int{-1, -2, -64, -most, math.MinInt32, math.MinInt, math.MinInt + 2, most + 1, most + 2, 2 * most, math.MaxInt32, math.MaxInt, math.MaxInt - 1, 1<<32 + 2, 1 << 32} {
		if m, e := New(n); m != nil || e != api.ErrArg {
			t.Error(n, m != nil, e)
		}
	}
}

// P2.1: Load and Store of each address that there is, the words' bounds among what is stored, and the chapter's example.
func TestLoadAndStore(t *testing.T) {
	for _, w := range []uint32{0, 1, 7, 1 << 16, 1<<31 - 1, 1 << 31, math.MaxUint32 - 1, math.MaxUint32} {
		for at := range uint64(5) {
			m := made(t, 5)
			store(t, m, at, w)
			if got, e := m.Load(at); got != w || e != api.OK {
				t.Error(at, w, got, e)
			}
		}
	}
	m := made(t, 2)
	store(t, m, 1, 7)
	if w, e := m.Load(1); w != 7 || e != api.OK {
		t.Error(w, e)
	}
	if w, e := m.Load(2); w != 0 || e != api.AccessFault {
		t.Error(w, e)
	}
}

// P2.1: Load and Store of addresses beyond the end: a fault, no word told, none changed.
func TestLoadAndStoreBeyond(t *testing.T) {
	for n := range 6 {
		words := []uint32{11, 12, 13, 14, 15, 16}[:n]
		m := filled(t, words...)
		for _, at := range beyond(n) {
			if w, e := m.Load(at); w != 0 || e != api.AccessFault {
				t.Error("load:", n, at, w, e)
			}
			for _, w := range []uint32{0, 99} {
				if e := m.Store(at, w); e != api.AccessFault {
					t.Error("store:", n, at, w, e)
				}
			}
		}
		same(t, m, words)
	}
}

// P2.1: Load and Store at the end of the greatest memory.
func TestLoadAndStoreAtTheBound(t *testing.T) {
	m := made(t, most)
	want := make([]uint32, most)
	for at := range most {
		want[at] = math.MaxUint32 - uint32(at)*65537
		store(t, m, uint64(at), want[at])
	}
	for _, at := range []uint64{most, most + 1, 2*most - 1, 1 << 32, 1 << 63, math.MaxUint64 - most, math.MaxUint64 - most + 1, math.MaxUint64} {
		if w, e := m.Load(at); w != 0 || e != api.AccessFault {
			t.Error("load:", at, w, e)
		}
		if e := m.Store(at, 5); e != api.AccessFault {
			t.Error("store:", at, e)
		}
	}
	same(t, m, want)
}

// P2.2, R1: All of no words tells nothing, and isn't nil.
func TestAllOfNothing(t *testing.T) {
	m := made(t, 0)
	if m.All() == nil {
		t.Fatal("nil")
	}
	for at, w := range m.All() {
		t.Error(at, w)
	}
	if len(m.Words()) != 0 {
		t.Error(m.Words())
	}
}

// P2.2: All tells nothing more when it was asked to stop, be it at the first, at one within, or at the last word.
func TestAllStops(t *testing.T) {
	words := []uint32{4, 0, 6, 7}
	m := filled(t, words...)
	for stop := 1; stop <= len(words); stop++ {
		var got []uint32
		m.All()(func(at int, w uint32) bool {
			got = append(got, w)
			return len(got) < stop
		})
		if !slices.Equal(got, words[:stop]) {
			t.Error(stop, got)
		}
	}
	same(t, m, words)
}

// P2.2, R6: one iterator is gone through from its beginning on each time: twice, behind a stop, and within itself.
func TestAllTwice(t *testing.T) {
	words := []uint32{4, 0, 6}
	all := filled(t, words...).All()
	through := func() []uint32 {
		var l []uint32
		for at, w := range all {
			if at != len(l) {
				t.Error("address:", at, len(l))
			}
			l = append(l, w)
		}
		return l
	}
	for range 2 {
		if got := through(); !slices.Equal(got, words) {
			t.Error("again:", got)
		}
	}
	for stop := range words {
		for at := range all {
			if at == stop {
				break
			}
		}
		if got := through(); !slices.Equal(got, words) {
			t.Error("behind a stop:", stop, got)
		}
	}
	for range all {
		if got := through(); !slices.Equal(got, words) {
			t.Error("within:", got)
		}
	}
}

// P2.2, R6: an iterator tells the words that there are when it is gone through, not those that were when it was asked for.
func TestAllTellsWhatThereIs(t *testing.T) {
	m := filled(t, 1, 2, 3)
	all := m.All()
	for _, w := range []uint32{20, 21} {
		store(t, m, 1, w)
		var got []uint32
		for _, x := range all {
			got = append(got, x)
		}
		if !slices.Equal(got, []uint32{1, w, 3}) {
			t.Error(w, got)
		}
	}
}

// P2.2: what is stored while an iterator is gone through is told, where it isn't gone by.
func TestAllWhileStoring(t *testing.T) {
	m := filled(t, 1, 2, 3)
	var got []uint32
	for at, w := range m.All() {
		got = append(got, w)
		store(t, m, 2-uint64(at), 10+uint32(at))
	}
	if want := []uint32{1, 2, 10}; !slices.Equal(got, want) {
		t.Error(got)
	}
	same(t, m, []uint32{12, 11, 10})
}

// P2.2, R4: what Words answers is new memory: what is written into it, spare room included, changes neither the memory nor another answer.
func TestWordsAreNew(t *testing.T) {
	want := []uint32{5, 6, 7}
	m := filled(t, want...)
	first, second := m.Words(), m.Words()
	room := first[:cap(first)]
	for i := range room {
		room[i] = 99
	}
	same(t, m, want)
	if !slices.Equal(second, want) {
		t.Error("another answer:", second)
	}
	if !slices.Equal(m.Words(), want) {
		t.Error("a later answer:", m.Words())
	}
}

// P2.2, R4: an answer of Words stays as it was, whatever is stored behind it.
func TestWordsStay(t *testing.T) {
	m := filled(t, 5, 6, 7)
	was := m.Words()
	store(t, m, 0, 50)
	store(t, m, 2, 70)
	if !slices.Equal(was, []uint32{5, 6, 7}) {
		t.Error(was)
	}
	same(t, m, []uint32{50, 6, 70})
}

// P2.3: through a long row of stores, some of them beyond the end, each word is what was stored there last.
func TestStoredLast(t *testing.T) {
	for _, n := range []int{0, 1, 2, 7, 64} {
		m := made(t, n)
		want := make([]uint32, n)
		at, w := uint64(3), uint32(1)
		for range 300 {
			at, w = at*5+7, w*1664525+1013904223
			place := at >> 3 % (uint64(n) + 2)
			e := m.Store(place, w)
			if place < uint64(n) {
				want[place] = w
				if e != api.OK {
					t.Error("store:", n, place, e)
				}
			} else if e != api.AccessFault {
				t.Error("store beyond:", n, place, e)
			}
			same(t, m, want)
		}
	}
}

// P2.3: loads, and going through, change nothing.
func TestReadingChangesNothing(t *testing.T) {
	want := []uint32{1, 0, math.MaxUint32}
	m := filled(t, want...)
	for range 3 {
		m.Len()
		for at := range uint64(5) {
			m.Load(at)
		}
		for range m.All() {
			break
		}
		m.Words()
		same(t, m, want)
	}
}

// P2.3, R5: two memories share no word.
func TestTwoMemories(t *testing.T) {
	a, b := made(t, 3), made(t, 3)
	store(t, a, 0, 1)
	store(t, b, 1, 2)
	store(t, a, 2, 3)
	same(t, a, []uint32{1, 0, 3})
	same(t, b, []uint32{0, 2, 0})
}

// R5: a memory that was refused leaves nothing behind for the next one.
func TestNewBehindARefusal(t *testing.T) {
	New(-1)
	New(most + 1)
	same(t, made(t, 2), []uint32{0, 0})
}
