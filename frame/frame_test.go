package frame

import (
	"iter"
	"math"
	"reflect"
	"slices"
	"strings"
	"testing"

	"porthole/api"
	"porthole/defect"
)

// The calls have the chapter's signatures.
var (
	_ func(api.Frame) bool                    = Right
	_ func(api.Frame, int) (int, bool)        = At
	_ func(api.Frame, int) (int, bool)        = Enters
	_ func(api.Frame, int, int) (int, bool)   = Next
	_ func(api.Frame, int, int) iter.Seq[int] = Ticks
)

// The document's bounds, told anew, so that a wrong one in the package is found.
const (
	maxFrame   = 64
	maxWindows = 16
	greatest   = 1099511627776 // 2^40
)

// far are numbers below and above all that may be; taken together, or a few times, some of them wrap round to one that may be.
var far = []int{
	-1, -2, -63, -64, -65, math.MinInt32, -1 << 32, -1<<32 + 1, -1 << 40, -1 << 62, math.MinInt, math.MinInt + 1, math.MinInt + 2, math.MinInt + 64,
	65, 66, 128, 1 << 16, math.MaxInt32, math.MaxInt32 + 1, 1<<32 - 1, 1 << 32, 1<<32 + 1, 1 << 40, 1 << 62, math.MaxInt - 64, math.MaxInt - 1, math.MaxInt,
}

// wrongTicks are ticks that may not be asked of.
var wrongTicks = []int{
	-1, -2, -5, -64, -65, math.MinInt32, -greatest, -greatest - 1, -1 << 62, math.MinInt, math.MinInt + 1,
	greatest + 1, greatest + 2, greatest + 64, 2 * greatest, 1 << 62, math.MaxInt - 1, math.MaxInt,
}

func win(part, start, length int) api.Window {
	return api.Window{Part: part, Start: start, Len: length}
}

func of(length int, windows ...api.Window) api.Frame {
	return api.Frame{Length: length, Windows: windows}
}

// drawn is a frame that is drawn place by place: a capital letter where a window is entered (A of part 0), its small one where it is open still, a stroke where none is.
type drawn string

// part is whose letter it is.
func part(letter byte) int { return int(letter|0x20) - 'a' }

func isCapital(letter byte) bool { return letter >= 'A' && letter <= 'Z' }

func (d drawn) frame() api.Frame {
	f := api.Frame{Length: len(d)}
	for place := range len(d) {
		if isCapital(d[place]) {
			f.Windows = append(f.Windows, win(part(d[place]), place, 1))
		} else if d[place] != '-' {
			f.Windows[len(f.Windows)-1].Len++
		}
	}
	return f
}

// letter is what is drawn at a tick.
func (d drawn) letter(tick int) byte { return d[tick-tick/len(d)*len(d)] }

func (d drawn) at(tick int) (int, bool) {
	if d.letter(tick) == '-' {
		return 0, false
	}
	return part(d.letter(tick)), true
}

func (d drawn) enters(tick int) (int, bool) {
	if !isCapital(d.letter(tick)) {
		return 0, false
	}
	return part(d.letter(tick)), true
}

// next goes on tick by tick, and gives up behind more ticks than any frame has.
func (d drawn) next(p, tick int) (int, bool) {
	for at := tick + 1; at <= tick+2*maxFrame; at++ {
		if q, ok := d.enters(at); ok && q == p {
			return at, true
		}
	}
	return 0, false
}

// ticks are the first n.
func (d drawn) ticks(p, from, n int) []int {
	var l []int
	for at := from; len(l) < n && at <= from+n*maxFrame; at++ {
		if q, ok := d.at(at); ok && q == p {
			l = append(l, at)
		}
	}
	return l
}

// some are frames of each sort that the chapter knows.
var some = []drawn{
	"-HhI-",
	"-", "A", "B", "---", "-A-", "A--", "--A", "Aaa", "Aa-", "-Aa", "AAA", "ABC", "AaBb", "Aa-Bb", "-Aa-Bb-", "A-A-A", "AaAaA", "A-B-Aa--Bbb",
	"BbA", "BbA-Aa", "ZzzzzzzzzzY",
	drawn(strings.Repeat("-", maxFrame)),
	drawn("A" + strings.Repeat("a", maxFrame-1)),
	drawn("A" + strings.Repeat("-", maxFrame-1)),
	drawn(strings.Repeat("-", maxFrame-1) + "F"),
	drawn(strings.Repeat("-", maxFrame-2) + "Ff"),
	drawn("A" + strings.Repeat("a", maxFrame-3) + "-B"),
	drawn(strings.Repeat("Aaaa", maxWindows)),
	drawn(strings.Repeat("AaaaBbbb", maxWindows/2)),
	drawn(strings.Repeat("-Ee-", maxWindows)),
	drawn(strings.Repeat("---C", maxWindows)),
	"ABCDEFGHIJKLMNOP", "ABCDEFABCDEFABCD", "AAAAAAAAAAAAAAAA", "AAAAAAAAAAAAAAAB", "-A-B-C-D-E-F-A-B-C-D-E-F-A-B-C-D-",
}

// short are all drawings of at most so many places, of two parts.
func short(most int) []drawn {
	var l []drawn
	ahead := []drawn{""}
	for range most {
		var longer []drawn
		for _, d := range ahead {
			for _, letter := range []string{"-", "A", "B", "a", "b"} {
				isOpen := letter == "a" || letter == "b"
				if isOpen && (d == "" || strings.ToLower(string(d[len(d)-1:])) != letter) {
					continue
				}
				longer = append(longer, d+drawn(letter))
			}
		}
		ahead = longer
		l = append(l, longer...)
	}
	return l
}

// wrong are frames that aren't right, by each of the conditions.
func wrong() []api.Frame {
	whole := win(0, 0, 1)
	l := []api.Frame{
		{}, of(0), of(-1), of(65), of(0, whole), of(-1, whole), of(65, whole), of(65, win(0, 0, 65)),
		of(5, win(0, -1, 1)), of(5, win(0, -1, 2)), of(5, win(0, -1, 6)), of(5, win(0, -5, 5)), of(5, win(0, -5, 10)),
		of(5, win(0, 0, 0)), of(5, win(0, 2, 0)), of(5, win(0, 4, 0)), of(5, win(0, 5, 0)), of(5, win(0, 0, -1)), of(5, win(0, 3, -1)), of(5, win(0, 3, -3)), of(1, win(0, 0, 0)), of(64, win(0, 64, 0)),
		of(5, win(0, 0, 6)), of(5, win(0, 4, 2)), of(5, win(0, 5, 1)), of(5, win(0, 6, 1)), of(5, win(0, 6, -1)), of(1, win(0, 0, 2)), of(1, win(0, 1, 1)), of(64, win(0, 0, 65)), of(64, win(0, 63, 2)), of(64, win(0, 64, 1)), of(64, win(0, 1, 64)),
		of(9, win(0, 0, 2), win(1, 1, 2)), of(9, win(0, 0, 2), win(0, 0, 2)), of(9, win(0, 2, 2), win(1, 3, 1)), of(9, win(0, 0, 9), win(1, 8, 1)), of(9, win(0, 0, 9), win(1, 0, 9)), of(9, win(0, 2, 3), win(1, 2, 1)), of(9, win(0, 2, 3), win(1, 1, 9)),
		of(9, win(0, 4, 2), win(1, 0, 2)), of(9, win(0, 1, 1), win(1, 0, 1)), of(9, win(0, 8, 1), win(1, 0, 8)), of(9, win(0, 0, 1), win(1, 4, 1), win(2, 2, 1)), of(9, win(0, 0, 1), win(1, 4, 1), win(2, 4, 1)), of(9, win(0, 3, 1), win(1, 1, 1), win(2, 4, 1)), of(9, win(0, 0, 4), win(1, 4, 4), win(2, 7, 1)),
		of(9, win(0, 0, 1), win(1, -1, 1)), of(9, win(0, 0, 1), win(1, 1, 0)), of(9, win(0, 0, 1), win(1, 8, 2)), of(9, win(0, 0, 1), win(1, 1, 1), win(2, 3, 7)), of(9, win(0, -1, 1), win(1, 1, 1)), of(9, win(0, 0, 0), win(1, 1, 1)),
		of(9, win(0, 1, math.MaxInt), win(1, 2, 1)), of(9, win(0, math.MaxInt, math.MaxInt), win(1, 2, 1)), of(9, win(0, math.MaxInt, 2)), of(9, win(0, 5, math.MaxInt)), of(9, win(0, math.MaxInt, math.MinInt)), of(9, win(0, math.MinInt, math.MaxInt)), of(9, win(0, math.MinInt, math.MinInt)), of(9, win(0, -1, math.MaxInt)), of(9, win(0, 1<<62, 1<<62), win(1, 3, 1)), of(9, win(0, 1, 1<<32), win(1, 2, 1)), of(9, win(0, 1<<32, 1)),
		of(math.MaxInt, win(0, 0, math.MaxInt)), of(math.MinInt, win(0, 0, 1)), of(1<<32+5, win(0, 0, 1)), of(-1<<32+5, win(0, 0, 1)),
	}
	for _, n := range far {
		l = append(l, of(n), of(n, whole), of(9, win(0, n, 1)), of(9, win(0, 0, n)), of(9, win(0, n, n)), of(9, win(0, n, -n)), of(9, whole, win(0, n, 1)), of(9, whole, win(0, 3, n)), of(9, whole, win(0, n, n)), of(9, win(0, n, 1), win(0, 3, 1)), of(9, win(0, 2, n), win(0, 3, 1)))
	}
	return append(l, crowded(17, 64), crowded(17, 17), crowded(32, 64), crowded(64, 64))
}

// crowded has so many windows of one tick each, which touch.
func crowded(n, length int) api.Frame {
	f := api.Frame{Length: length}
	for i := range n {
		f.Windows = append(f.Windows, win(i%3, i, 1))
	}
	return f
}

// parts are all that a letter may be of, and some that none is of.
func parts() []int {
	l := []int{-1, -2, -32, 26, 64, math.MinInt, math.MaxInt}
	for p := range 26 {
		l = append(l, p)
	}
	return l
}

// asked are ticks of the first turns, of later ones, and up to the greatest one.
func asked(length int) []int {
	var l []int
	for i := range 3*length + 2 {
		l = append(l, i)
	}
	for _, turn := range []int{1000, 12345679, 1 << 30} {
		for i := -1; i <= length; i++ {
			l = append(l, turn*length+i)
		}
	}
	for i := range length + 2 {
		l = append(l, greatest-i)
	}
	return l
}

// first are the first n ticks that an iterator tells, or fewer, if it ends.
func first(seq iter.Seq[int], n int) []int {
	var l []int
	for tick := range seq {
		l = append(l, tick)
		if len(l) == n {
			break
		}
	}
	return l
}

func sameAs(t *testing.T, what string, f api.Frame, asked []int, got int, ok bool, want int, due bool) {
	t.Helper()
	if got != want || ok != due {
		t.Errorf("%s %v: %d, %v instead of %d, %v, of %v", what, asked, got, ok, want, due, f)
	}
}

// holds tells a fault unless the five calls answer what is drawn.
func holds(t *testing.T, d drawn, ticks []int) {
	t.Helper()
	f := d.frame()
	if !Right(f) {
		t.Errorf("isn't right: %v", f)
	}
	for _, tick := range ticks {
		got, ok := At(f, tick)
		want, due := d.at(tick)
		sameAs(t, "at", f, []int{tick}, got, ok, want, due)
		got, ok = Enters(f, tick)
		want, due = d.enters(tick)
		sameAs(t, "enters", f, []int{tick}, got, ok, want, due)
		for _, p := range parts() {
			got, ok = Next(f, p, tick)
			want, due = d.next(p, tick)
			sameAs(t, "next", f, []int{p, tick}, got, ok, want, due)
		}
	}
}

// nothing tells a fault if one of four calls answers anything.
func nothing(t *testing.T, f api.Frame, part, tick int) {
	t.Helper()
	got, ok := At(f, tick)
	sameAs(t, "at", f, []int{tick}, got, ok, 0, false)
	got, ok = Enters(f, tick)
	sameAs(t, "enters", f, []int{tick}, got, ok, 0, false)
	got, ok = Next(f, part, tick)
	sameAs(t, "next", f, []int{part, tick}, got, ok, 0, false)
	for got := range Ticks(f, part, tick) {
		t.Fatalf("ticks %d %d: %d, of %v", part, tick, got, f)
	}
}

// The chapter's example.
func TestExample(t *testing.T) {
	f := of(5, win(7, 1, 2), win(8, 3, 1))
	if !Right(f) {
		t.Error("isn't right")
	}
	if p, ok := At(f, 7); p != 7 || !ok {
		t.Error(p, ok)
	}
	if p, ok := At(f, 9); p != 0 || ok {
		t.Error(p, ok)
	}
	if p, ok := Enters(f, 6); p != 7 || !ok {
		t.Error(p, ok)
	}
	if p, ok := Enters(f, 7); p != 0 || ok {
		t.Error(p, ok)
	}
	if !reflect.DeepEqual(drawn("-HhI-").frame(), f) {
		t.Error(drawn("-HhI-").frame())
	}
}

// P9.1, P9.2: the example's frame, tick by tick.
func TestTickByTick(t *testing.T) {
	f := of(5, win(7, 1, 2), win(8, 3, 1))
	for _, x := range []struct {
		tick, at, enters, next7, next8 int
	}{
		{0, 0, 0, 1, 3}, {1, 7, 7, 6, 3}, {2, 7, 0, 6, 3}, {3, 8, 8, 6, 8}, {4, 0, 0, 6, 8},
		{5, 0, 0, 6, 8}, {6, 7, 7, 11, 8}, {7, 7, 0, 11, 8}, {8, 8, 8, 11, 13}, {9, 0, 0, 11, 13}, {10, 0, 0, 11, 13},
		{1000, 0, 0, 1001, 1003}, {1001, 7, 7, 1006, 1003}, {1004, 0, 0, 1006, 1008},
	} {
		got, ok := At(f, x.tick)
		sameAs(t, "at", f, []int{x.tick}, got, ok, x.at, x.at != 0)
		got, ok = Enters(f, x.tick)
		sameAs(t, "enters", f, []int{x.tick}, got, ok, x.enters, x.enters != 0)
		got, ok = Next(f, 7, x.tick)
		sameAs(t, "next 7", f, []int{x.tick}, got, ok, x.next7, true)
		got, ok = Next(f, 8, x.tick)
		sameAs(t, "next 8", f, []int{x.tick}, got, ok, x.next8, true)
		got, ok = Next(f, 0, x.tick)
		sameAs(t, "next 0", f, []int{x.tick}, got, ok, 0, false)
	}
	for _, x := range []struct {
		part, from int
		want       []int
	}{
		{7, 0, []int{1, 2, 6, 7, 11}}, {7, 1, []int{1, 2, 6, 7, 11}}, {7, 2, []int{2, 6, 7, 11, 12}}, {7, 3, []int{6, 7, 11, 12, 16}}, {7, 5, []int{6, 7, 11, 12, 16}}, {7, 7, []int{7, 11, 12, 16, 17}},
		{8, 0, []int{3, 8, 13, 18, 23}}, {8, 3, []int{3, 8, 13, 18, 23}}, {8, 4, []int{8, 13, 18, 23, 28}}, {8, 1003, []int{1003, 1008, 1013, 1018, 1023}},
		{0, 0, nil}, {6, 3, nil}, {-7, 1, nil},
	} {
		if got := first(Ticks(f, x.part, x.from), 5); !slices.Equal(got, x.want) {
			t.Error(x, got)
		}
	}
}

// P9.1: Right, of the edges that the chapter names.
func TestRight(t *testing.T) {
	for _, f := range []api.Frame{
		of(1), of(2), of(63), of(64), of(1, win(0, 0, 1)), of(64, win(0, 0, 64)), of(64, win(0, 63, 1)), of(64, win(0, 0, 1)), of(64, win(0, 0, 63), win(1, 63, 1)),
		of(5, win(0, 0, 5)), of(5, win(0, 4, 1)), of(5, win(0, 3, 2)), of(5, win(0, 0, 2), win(1, 2, 3)), of(5, win(0, 0, 1), win(1, 4, 1)), of(5, win(0, 1, 1), win(0, 2, 1), win(0, 3, 1)),
		crowded(16, 16), crowded(16, 64), crowded(15, 64),
		// Whose window it is isn't looked at.
		of(5, win(-1, 0, 1)), of(5, win(math.MinInt, 0, 1), win(math.MaxInt, 1, 1)), of(5, win(6, 0, 1)),
	} {
		if !Right(f) {
			t.Error("is right:", f)
		}
	}
	for _, d := range slices.Concat(some, short(6)) {
		if !Right(d.frame()) {
			t.Error("is right:", d)
		}
	}
	for _, f := range wrong() {
		if Right(f) {
			t.Error("isn't right:", f)
		}
	}
}

// P9.1: Right, of all frames of up to three windows of small numbers, held against places that are taken one by one.
func TestRightOfSmall(t *testing.T) {
	var l []api.Window
	for start := -1; start <= 4; start++ {
		for n := -1; n <= 4; n++ {
			l = append(l, win(0, start, n))
		}
	}
	hold := func(f api.Frame) {
		if Right(f) != fits(f) {
			t.Error(!fits(f), f)
		}
	}
	for length := -1; length <= 4; length++ {
		hold(of(length))
		for _, a := range l {
			hold(of(length, a))
			for _, b := range l {
				hold(of(length, a, b))
				for _, c := range l {
					hold(of(length, a, b, c))
				}
			}
		}
	}
}

// fits takes a small frame's places one by one: each window has some, that there are, and that stand behind all that are taken.
func fits(f api.Frame) bool {
	if f.Length < 1 {
		return false
	}
	last := -1
	for _, w := range f.Windows {
		if w.Len < 1 {
			return false
		}
		for i := range w.Len {
			if place := w.Start + i; place <= last || place >= f.Length {
				return false
			} else {
				last = place
			}
		}
	}
	return true
}

// P9.1: a frame is right just if it has none of the defects 12, 13, 15 and 16 of layer 7.
func TestRightAsDefects(t *testing.T) {
	l := wrong()
	for _, d := range slices.Concat(some, short(4)) {
		l = append(l, d.frame())
	}
	numbers := append([]int{0, 1, 2, 3}, far...)
	for _, a := range numbers {
		for _, b := range numbers {
			l = append(l, of(64, win(0, a, b), win(0, 3, 1)), of(64, win(0, 1, 1), win(0, a, b)), of(a, win(0, 0, b)), of(a, win(0, b, 1)))
		}
	}
	for _, f := range l {
		c := api.Config{Frames: [2]api.Frame{f, of(1)}}
		has := defect.Holds(c, 12) || defect.Holds(c, 13) || defect.Holds(c, 15) || defect.Holds(c, 16)
		if Right(f) == has {
			t.Error(has, f)
		}
	}
}

// P9.1, P9.2: At, Enters and Next of frames of each sort, in the first turns, in later ones, and up to the greatest tick.
func TestOfSome(t *testing.T) {
	for _, d := range some {
		holds(t, d, asked(len(d)))
	}
}

// P9.1, P9.2: the same of all short frames.
func TestOfShort(t *testing.T) {
	for _, d := range short(5) {
		var l []int
		for i := range 2*len(d) + 1 {
			l = append(l, i, greatest-i)
		}
		holds(t, d, l)
	}
}

// P9.1, P9.2: the first and the last tick of a window, and one ahead of either and behind it.
func TestWindowsEdges(t *testing.T) {
	f := of(64, win(3, 10, 20), win(4, 40, 24))
	for _, turn := range []int{0, 64, 64 * 17, greatest - 64} {
		for _, x := range []struct {
			place, at    int
			enters       bool
			next3, next4 int
		}{
			{0, 0, false, 10, 40}, {9, 0, false, 10, 40}, {10, 3, true, 74, 40}, {11, 3, false, 74, 40}, {28, 3, false, 74, 40}, {29, 3, false, 74, 40}, {30, 0, false, 74, 40}, {31, 0, false, 74, 40},
			{39, 0, false, 74, 40}, {40, 4, true, 74, 104}, {41, 4, false, 74, 104}, {62, 4, false, 74, 104}, {63, 4, false, 74, 104},
		} {
			tick := turn + x.place
			got, ok := At(f, tick)
			sameAs(t, "at", f, []int{tick}, got, ok, x.at, x.at != 0)
			got, ok = Enters(f, tick)
			if x.enters {
				sameAs(t, "enters", f, []int{tick}, got, ok, x.at, true)
			} else {
				sameAs(t, "enters", f, []int{tick}, got, ok, 0, false)
			}
			got, ok = Next(f, 3, tick)
			sameAs(t, "next 3", f, []int{tick}, got, ok, turn+x.next3, true)
			got, ok = Next(f, 4, tick)
			sameAs(t, "next 4", f, []int{tick}, got, ok, turn+x.next4, true)
		}
	}
	for _, x := range []struct{ part, from, first, second int }{
		{3, 9, 10, 11}, {3, 10, 10, 11}, {3, 11, 11, 12}, {3, 28, 28, 29}, {3, 29, 29, 74}, {3, 30, 74, 75}, {4, 39, 40, 41}, {4, 40, 40, 41}, {4, 62, 62, 63}, {4, 63, 63, 104}, {4, 64, 104, 105},
	} {
		if got := first(Ticks(f, x.part, x.from), 2); !slices.Equal(got, []int{x.first, x.second}) {
			t.Error(x, got)
		}
	}
}

// P9.1: of part 0 a window that is open is told from none that is.
func TestPartNought(t *testing.T) {
	f := of(3, win(0, 1, 1))
	for tick, due := range []bool{false, true, false, false, true, false} {
		got, ok := At(f, tick)
		sameAs(t, "at", f, []int{tick}, got, ok, 0, due)
		got, ok = Enters(f, tick)
		sameAs(t, "enters", f, []int{tick}, got, ok, 0, due)
	}
	if got, ok := Next(f, 0, 1); got != 4 || !ok {
		t.Error(got, ok)
	}
	if got := first(Ticks(f, 0, 0), 3); !slices.Equal(got, []int{1, 4, 7}) {
		t.Error(got)
	}
}

// P9.2: a window's entry isn't behind itself: of one window the next one comes a whole Length behind it.
func TestNextOfOneWindow(t *testing.T) {
	for length := 1; length <= maxFrame; length++ {
		for _, start := range []int{0, length / 2, length - 1} {
			f := of(length, win(2, start, length-start))
			for _, turn := range []int{0, 1, 2, 1000000} {
				entry := turn*length + start
				got, ok := Next(f, 2, entry)
				sameAs(t, "next", f, []int{entry}, got, ok, entry+length, true)
				got, ok = Next(f, 2, entry+length-1)
				sameAs(t, "next", f, []int{entry + length - 1}, got, ok, entry+length, true)
				if entry > 0 {
					got, ok = Next(f, 2, entry-1)
					sameAs(t, "next", f, []int{entry - 1}, got, ok, entry, true)
				}
			}
		}
	}
}

// P9.1, P9.2: tick 0 and the greatest one, behind which Next and Ticks go on.
func TestFirstAndGreatestTick(t *testing.T) {
	f := of(64, win(5, 0, 1), win(6, 63, 1))
	for _, tick := range []int{0, greatest} {
		got, ok := At(f, tick)
		sameAs(t, "at", f, []int{tick}, got, ok, 5, true)
		got, ok = Enters(f, tick)
		sameAs(t, "enters", f, []int{tick}, got, ok, 5, true)
		got, ok = Next(f, 5, tick)
		sameAs(t, "next 5", f, []int{tick}, got, ok, tick+64, true)
		got, ok = Next(f, 6, tick)
		sameAs(t, "next 6", f, []int{tick}, got, ok, tick+63, true)
		if got := first(Ticks(f, 5, tick), 3); !slices.Equal(got, []int{tick, tick + 64, tick + 128}) {
			t.Error(tick, got)
		}
		if got := first(Ticks(f, 6, tick), 3); !slices.Equal(got, []int{tick + 63, tick + 127, tick + 191}) {
			t.Error(tick, got)
		}
	}
	// 2^40 modulo 7 is 2.
	f = of(7, win(1, 2, 1))
	if p, ok := Enters(f, greatest); p != 1 || !ok {
		t.Error(p, ok)
	}
	if p, ok := At(f, greatest-1); p != 0 || ok {
		t.Error(p, ok)
	}
	if got, ok := Next(f, 1, greatest); got != greatest+7 || !ok {
		t.Error(got, ok)
	}
}

// P9.2: Ticks of each part of frames of each sort, from each tick of the first two turns, from later ones, and from the greatest one.
func TestTicks(t *testing.T) {
	for _, d := range slices.Concat(some, short(4)) {
		f := d.frame()
		froms := []int{1000*len(d) - 1, 1000 * len(d), greatest - 1, greatest}
		for from := range 2*len(d) + 1 {
			froms = append(froms, from)
		}
		for _, from := range froms {
			for _, p := range parts() {
				n := 2*len(d) + 3
				if got, want := first(Ticks(f, p, from), n), d.ticks(p, from, n); !slices.Equal(got, want) {
					t.Fatalf("ticks %d %d: %v instead of %v, of %s", p, from, got, want, d)
				}
			}
		}
	}
}

// P9.2: Ticks tells as many ticks as are asked for, without an end of its own.
func TestTicksWithoutEnd(t *testing.T) {
	const many = 1000000
	f := of(5, win(7, 1, 2), win(8, 3, 1))
	want, told := 3, 0
	for tick := range Ticks(f, 8, 0) {
		if tick != want {
			t.Fatal(told, tick)
		}
		want += 5
		if told++; told == many {
			break
		}
	}
	if told != many {
		t.Error(told)
	}
	want = greatest
	for tick := range Ticks(of(1, win(0, 0, 1)), 0, greatest) {
		if tick != want {
			t.Fatal(tick)
		}
		if want++; want == greatest+many {
			break
		}
	}
	if want != greatest+many {
		t.Error(want)
	}
}

// P9.2, R6: Ticks is stopped at each place: it tells nothing more, and tells the same from its beginning on each time.
func TestTicksStops(t *testing.T) {
	for _, d := range []drawn{"-HhI-", "H", "Hh-H-Hhh", "---H", drawn(strings.Repeat("Hhhh", maxWindows))} {
		for _, from := range []int{0, 2, 1000, greatest} {
			all := Ticks(d.frame(), 7, from)
			want := d.ticks(7, from, 200)
			for stop := 1; stop <= len(want); stop++ {
				var got []int
				all(func(tick int) bool {
					if len(got) == stop {
						t.Fatal("told behind a stop:", stop, tick, d)
					}
					got = append(got, tick)
					return len(got) < stop
				})
				if !slices.Equal(got, want[:stop]) {
					t.Fatal(stop, got, d)
				}
			}
			if got := first(all, len(want)); !slices.Equal(got, want) {
				t.Error("behind the stops:", got, d)
			}
		}
	}
}

// P9.2, R6: one iterator is gone through within itself, and two of them in turn.
func TestTicksWithinItself(t *testing.T) {
	d := drawn("-HhI-Hh")
	all, other := Ticks(d.frame(), 7, 4), Ticks(d.frame(), 8, 4)
	want, others := d.ticks(7, 4, 20), d.ticks(8, 4, 20)
	var outer []int
	for tick := range all {
		outer = append(outer, tick)
		if got := first(all, 20); !slices.Equal(got, want) {
			t.Error(got)
		}
		if got := first(other, 20); !slices.Equal(got, others) {
			t.Error(got)
		}
		if len(outer) == len(want) {
			break
		}
	}
	if !slices.Equal(outer, want) {
		t.Error(outer)
	}
}

// R1: an iterator that is told is never nil, though there is nothing to tell.
func TestTicksIsNeverNil(t *testing.T) {
	for _, f := range append(wrong(), of(1), of(5, win(7, 1, 2))) {
		for _, tick := range append([]int{0, 1, greatest}, wrongTicks...) {
			for _, p := range []int{0, 7, -1} {
				if Ticks(f, p, tick) == nil {
					t.Fatal("nil:", p, tick, f)
				}
			}
		}
	}
}

// P9.1, P9.2: a part that has no window has no next entry and no ticks, be it below 0, or very great; one that has a window has both, whatever its number is.
func TestPartsWithoutWindow(t *testing.T) {
	for _, f := range []api.Frame{of(1), of(64), of(5, win(7, 1, 2), win(8, 3, 1)), of(1, win(7, 0, 1)), of(64, win(7, 0, 64)), of(9, win(-8, 0, 2), win(8, 2, 3))} {
		for _, p := range append([]int{0, 1, 2, 5, 6, 9, 63, 64, -1, -7, -9}, far...) {
			for _, tick := range []int{0, 1, 6, 64, 1000, greatest} {
				if got, ok := Next(f, p, tick); got != 0 || ok {
					t.Error(p, tick, got, ok, f)
				}
				for got := range Ticks(f, p, tick) {
					t.Fatal(p, tick, got, f)
				}
			}
		}
	}
	for _, p := range append([]int{0, 1, -1, -2, 6}, far...) {
		f := of(4, win(p, 1, 2))
		got, ok := At(f, 5)
		sameAs(t, "at", f, []int{5}, got, ok, p, true)
		got, ok = Enters(f, 5)
		sameAs(t, "enters", f, []int{5}, got, ok, p, true)
		got, ok = Next(f, p, 5)
		sameAs(t, "next", f, []int{p, 5}, got, ok, 9, true)
		if got := first(Ticks(f, p, 3), 3); !slices.Equal(got, []int{5, 6, 9}) {
			t.Error(p, got)
		}
	}
}

// P9.1, P9.2: of a frame that isn't right there is nothing, of whatever part and tick.
func TestWrongFrames(t *testing.T) {
	for _, f := range wrong() {
		for _, p := range []int{0, 1, 2, -1, math.MinInt, math.MaxInt} {
			for _, tick := range []int{0, 1, 2, 3, 4, 8, 63, 64, 1000, greatest, -1, greatest + 1} {
				nothing(t, f, p, tick)
			}
		}
	}
}

// P9.1, P9.2: of a tick that is below 0, or above the greatest one, there is nothing, though the frame is right and always open.
func TestWrongTicks(t *testing.T) {
	for _, f := range []api.Frame{of(1, win(0, 0, 1)), of(1, win(3, 0, 1)), of(64, win(3, 0, 64)), of(5, win(3, 0, 2), win(0, 2, 3)), crowded(16, 16), of(1), of(64)} {
		for _, tick := range wrongTicks {
			for _, p := range []int{0, 3, -1, 1} {
				nothing(t, f, p, tick)
			}
		}
	}
}

// P9.3: at no tick two windows are open, and a window that is entered is open.
func TestOneAtATime(t *testing.T) {
	for _, d := range slices.Concat(some, short(5)) {
		f := d.frame()
		for _, from := range []int{0, 3, 77 * len(d)} {
			var all []int
			for _, p := range parts() {
				for tick := range Ticks(f, p, from) {
					if tick >= from+2*len(d) {
						break
					}
					all = append(all, tick)
					if q, ok := At(f, tick); q != p || !ok {
						t.Error(p, tick, q, ok, d)
					}
				}
			}
			slices.Sort(all)
			if len(slices.Compact(slices.Clone(all))) != len(all) {
				t.Error("two at once:", all, d)
			}
			for tick := from; tick < from+2*len(d); tick++ {
				p, open := At(f, tick)
				if open != slices.Contains(all, tick) {
					t.Error(tick, p, open, d)
				}
				if q, ok := Enters(f, tick); ok && (!open || p != q) {
					t.Error(tick, p, open, q, d)
				}
			}
		}
	}
}

// P9.3: the next entry comes within Length ticks, it is one of the part's, and there is none between.
func TestNextComesWithinLength(t *testing.T) {
	for _, d := range slices.Concat(some, short(5)) {
		f := d.frame()
		for _, w := range f.Windows {
			for _, tick := range asked(f.Length) {
				got, ok := Next(f, w.Part, tick)
				if !ok || got <= tick || got > tick+f.Length {
					t.Fatal(tick, got, ok, d)
				}
				if p, ok := Enters(f, got); got <= greatest && (p != w.Part || !ok) {
					t.Fatal(tick, got, p, ok, d)
				}
				for between := tick + 1; between < got && between <= greatest; between++ {
					if p, ok := Enters(f, between); ok && p == w.Part {
						t.Fatal(tick, got, between, d)
					}
				}
			}
		}
	}
}

// R4: what is written into the windows behind a call of Ticks makes no difference to what it tells, ahead of the going-through or within it.
func TestHandedInIsntKept(t *testing.T) {
	d := drawn("-HhI-Hh")
	want := d.ticks(7, 4, 20)
	scrawls := []func(f api.Frame){
		func(f api.Frame) { clear(f.Windows) },
		func(f api.Frame) {
			for i := range f.Windows {
				f.Windows[i] = win(7, 2*i, 2)
			}
		},
		func(f api.Frame) {
			for i := range f.Windows {
				f.Windows[i].Part = 15 - f.Windows[i].Part
			}
		},
		func(f api.Frame) { f.Windows[0] = win(-7, -7, -7) },
	}
	for _, scrawl := range scrawls {
		f := d.frame()
		all := Ticks(f, 7, 4)
		scrawl(f)
		for range 2 {
			if got := first(all, 20); !slices.Equal(got, want) {
				t.Error(got)
			}
		}
		f = d.frame()
		var got []int
		for tick := range Ticks(f, 7, 4) {
			if got = append(got, tick); len(got) == 20 {
				break
			}
			scrawl(f)
		}
		if !slices.Equal(got, want) {
			t.Error("within:", got)
		}
	}
}

// R4: nor does it make a frame right, or wrong, or give a part its window, behind the call.
func TestRightAtTheCall(t *testing.T) {
	f := of(5, win(7, 1, 2), win(8, 2, 1))
	wrong, without := Ticks(f, 7, 0), Ticks(of(5, f.Windows[:1]...), 6, 0)
	f.Windows[1].Start = 3
	for tick := range wrong {
		t.Fatal(tick)
	}
	f.Windows[0].Part = 6
	for tick := range without {
		t.Fatal(tick)
	}
	right := Ticks(f, 6, 0)
	f.Windows[1].Start = 2
	if got := first(right, 3); !slices.Equal(got, []int{1, 2, 6}) {
		t.Error(got)
	}
	for tick := range Ticks(f, 6, 0) {
		t.Fatal(tick)
	}
}

// R4: what is handed in isn't changed, spare room included.
func TestHandedInIsntChanged(t *testing.T) {
	room := []api.Window{win(7, 1, 2), win(8, 3, 1), win(9, 0, 3), win(7, 4, 1), win(-1, -1, -1)}
	before := slices.Clone(room)
	for n := range len(room) + 1 {
		f := of(5, room[:n]...)
		for tick := range 12 {
			Right(f)
			At(f, tick)
			Enters(f, tick)
			for _, p := range []int{7, 8, 9, -1} {
				Next(f, p, tick)
				first(Ticks(f, p, tick), 9)
			}
		}
		if !slices.Equal(room, before) {
			t.Fatal(n, room)
		}
		if f.Length != 5 || len(f.Windows) != n {
			t.Fatal(n, f)
		}
	}
}

// R3: nil and empty lists are one.
func TestNoWindows(t *testing.T) {
	for _, length := range []int{1, 5, 64} {
		for _, windows := range [][]api.Window{nil, {}, make([]api.Window, 0, 4)} {
			f := of(length, windows...)
			f.Windows = windows
			if !Right(f) {
				t.Error("is right:", f)
			}
			for _, tick := range asked(length) {
				nothing(t, f, 0, tick)
			}
		}
	}
}

// R5: what is answered hangs on the arguments alone, not on the calls ahead of it.
func TestOneBehindTheOther(t *testing.T) {
	one, other := drawn("-HhI-"), drawn("BbbA-Aa")
	first7, first0 := Ticks(one.frame(), 7, 3), Ticks(other.frame(), 0, 3)
	for range 3 {
		holds(t, one, []int{0, 1, 9})
		nothing(t, of(0), 7, 3)
		holds(t, other, []int{0, 1, 9})
		nothing(t, one.frame(), 7, -1)
		if got := first(first7, 9); !slices.Equal(got, one.ticks(7, 3, 9)) {
			t.Error(got)
		}
		if got := first(first0, 9); !slices.Equal(got, other.ticks(0, 3, 9)) {
			t.Error(got)
		}
	}
}
