package hist

import (
	"iter"
	"math"
	"slices"
	"testing"

	"porthole/api"
)

// The calls have the chapter's signatures.
var (
	_ func(api.Call, api.Call) bool                  = Ahead
	_ func(...api.Call) bool                         = Sound
	_ func([]api.Call, int) iter.Seq2[int, api.Call] = Of
	_ func([]api.Call, int) (int, bool, bool)        = Place
)

// The document's requests, told anew, so that a wrong one in the package is found.
const (
	create  = 1
	normal  = 2
	write   = 3
	read    = 4
	send    = 5
	receive = 6
	status  = 7
	peek    = 8
	poke    = 9
)

// others are all kinds of requests but Write and Read, and numbers that are of none.
var others = []int{create, normal, send, receive, status, peek, poke, 0, 10, -1, -4, 12, 256 + read, 1<<32 + read, 1<<32 + write, math.MinInt, math.MaxInt}

// far are numbers far from all that stands in the lists here; some of them are -1, 0 or 1 once they are cut short, or wrap round.
var far = []int{-3, -100, math.MinInt8, math.MinInt32, -1 << 32, -1<<32 - 1, -1 << 62, math.MinInt, math.MinInt + 1, 1000, math.MaxInt32, math.MaxInt32 + 1, 1<<32 - 1, 1 << 32, 1<<32 + 1, 1 << 62, math.MaxInt - 1, math.MaxInt}

// done is a call of partition 0 that is answered, the first one of it: moments 3 to 9, ticks 2 to 5, own steps 1 to 4.
func done(op int) api.Call {
	return api.Call{Req: api.Request{Op: op}, Done: true, From: 3, To: 9, T0: 2, T1: 5, Own0: 1, Own1: 4, Mark: -1, Ring: -1, Stamp: -1, Saw: -1}
}

// open is the same call, if it isn't answered.
func open(op int) api.Call {
	x := done(op)
	x.Done, x.To, x.T1, x.Own1 = false, -1, -1, -1
	return x
}

// with is a call with a Mark.
func with(x api.Call, mark int) api.Call {
	x.Mark = mark
	return x
}

// saws is a call with a Saw.
func saws(x api.Call, saw int) api.Call {
	x.Saw = saw
	return x
}

// lasts is a call with such moments, of such a partition.
func lasts(x api.Call, part, from, to int) api.Call {
	x.Part, x.From, x.To = part, from, to
	return x
}

// mixed are sound calls of three partitions: calls that are Done and calls that aren't, a Write and Reads that Saw it.
func mixed() []api.Call {
	return []api.Call{
		{Part: 2, Req: api.Request{Op: create, Port: 4}, Done: true, From: 0, To: 0, T0: 0, T1: 0, Own0: 1, Own1: 1, Mark: -1, Ring: -1, Stamp: -1, Saw: -1},
		{Part: 0, Req: api.Request{Op: write, Data: []uint32{7, 8}}, Done: true, From: 2, To: 9, T0: 1, T1: 3, Own0: 1, Own1: 6, Mark: 8, Ring: -1, Stamp: 2, Saw: -1},
		{Part: 1, Req: api.Request{Op: read, Port: 1}, Ans: api.Answer{Data: []uint32{7, 8}, Valid: true}, Done: true, From: 4, To: 12, T0: 1, T1: 3, Own0: 1, Own1: 7, Mark: -1, Ring: -1, Stamp: -1, Saw: 1},
		{Part: 2, Req: api.Request{Op: read, Port: 5}, Ans: api.Answer{Code: api.NoAction}, Done: true, From: 5, To: 10, T0: 1, T1: 3, Own0: 2, Own1: 5, Mark: -1, Ring: -1, Stamp: -1, Saw: -1},
		{Part: 0, Req: api.Request{Op: send, Port: 2, Data: []uint32{9}}, Done: true, From: 11, To: 17, T0: 3, T1: 4, Own0: 7, Own1: 12, Mark: 16, Ring: 17, Stamp: -1, Saw: -1},
		{Part: 1, Req: api.Request{Op: read, Port: 1}, Ans: api.Answer{Data: []uint32{7, 8}}, Done: true, From: 13, To: 20, T0: 3, T1: 9, Own0: 8, Own1: 14, Mark: -1, Ring: -1, Stamp: -1, Saw: 1},
		{Part: 0, Req: api.Request{Op: write, Data: []uint32{3}}, From: 18, To: -1, T0: 4, T1: -1, Own0: 13, Own1: -1, Mark: 19, Ring: -1, Stamp: 4, Saw: -1},
		{Part: 1, Req: api.Request{Op: read, Port: 1}, From: 21, To: -1, T0: 9, T1: -1, Own0: 15, Own1: -1, Mark: -1, Ring: -1, Stamp: -1, Saw: -1},
	}
}

// changed are the mixed calls, of which one is changed.
func changed(i int, change func(x *api.Call)) []api.Call {
	l := mixed()
	change(&l[i])
	return l
}

// sound tells a fault unless Sound answers that of calls, alone and with calls of another partition ahead of them and behind them.
func sound(t *testing.T, what string, want bool, l ...api.Call) {
	t.Helper()
	if got := Sound(l...); got != want {
		t.Errorf("%s: %v, of %+v", what, got, l)
	}
	for _, x := range l {
		if x.Part == 7 || x.From > math.MaxInt-1 {
			return
		}
	}
	last := 0
	for _, x := range l {
		last = max(last, x.From)
	}
	behind := append(slices.Clone(l), lasts(done(status), 7, last+1, math.MaxInt))
	if got := Sound(behind...); got != want {
		t.Errorf("%s, with a call behind: %v, of %+v", what, got, behind)
	}
	ahead := []api.Call{lasts(open(status), 7, 0, -1)}
	for _, x := range l {
		if x.From <= 0 {
			return
		}
		if x.Saw >= 0 && x.Saw < math.MaxInt {
			x.Saw++
		}
		ahead = append(ahead, x)
	}
	if got := Sound(ahead...); got != want {
		t.Errorf("%s, with a call ahead: %v, of %+v", what, got, ahead)
	}
}

// P17.1: Ahead: Done, and To is less than the other one's From.
func TestAhead(t *testing.T) {
	for _, x := range []struct {
		done     bool
		to, from int
		want     bool
	}{
		{true, 4, 5, true}, {true, 4, 4, false}, {true, 4, 3, false}, {true, 4, 0, false}, {true, 0, 1, true}, {true, 0, 0, false}, {true, 4, 1000, true},
		{false, 4, 5, false}, {false, -1, 0, false}, {false, -1, 5, false}, {false, -1, -1, false}, {false, 0, 1, false}, {false, math.MinInt, math.MaxInt, false},
		{true, math.MaxInt - 1, math.MaxInt, true}, {true, math.MaxInt, math.MaxInt, false}, {true, math.MaxInt, math.MinInt, false}, {true, math.MinInt, math.MaxInt, true}, {true, math.MinInt, math.MinInt, false},
		{true, 1 << 32, 1<<32 + 1, true}, {true, 1, 1 << 32, true}, {true, 1 << 32, 1, false},
	} {
		for _, partition := range []int{0, 1} {
			a := api.Call{Done: x.done, To: x.to, From: 17, Mark: 90, Part: partition}
			// Whether the other one is Done makes no difference, nor where it ends.
			for _, b := range []api.Call{{From: x.from}, {From: x.from, Done: true, To: math.MaxInt}, {From: x.from, To: -1, Part: 1, Mark: -1}} {
				if got := Ahead(a, b); got != x.want {
					t.Errorf("%v of %+v and %+v", got, a, b)
				}
			}
		}
	}
	if l := mixed(); !Ahead(l[0], l[1]) || !Ahead(l[1], l[4]) || Ahead(l[1], l[2]) || Ahead(l[2], l[1]) || Ahead(l[6], l[7]) || Ahead(l[4], l[1]) || Ahead(l[0], l[0]) {
		t.Error("of the mixed ones")
	}
}

// The chapter's example, and P17.1: no calls, one, and calls of several partitions, up to each length.
func TestSoundOnes(t *testing.T) {
	sound(t, "none", true)
	sound(t, "no list", true, []api.Call(nil)...)
	sound(t, "an empty list", true, []api.Call{}...)
	for op := range 11 {
		sound(t, "one", true, done(op))
		sound(t, "one that isn't answered", true, open(op))
	}
	l := mixed()
	sound(t, "mixed", true, l...)
	for n := range l {
		sound(t, "the first ones", true, l[:n]...)
	}
	// A call that was told as it was under way.
	for _, i := range []int{4, 5} {
		sound(t, "under way", true, changed(i, func(x *api.Call) { x.Done, x.To, x.T1, x.Own1 = false, -1, -1, -1 })[:i+1]...)
	}
}

// P17.1: which partition a call is of, what is asked for and answered, and a stamp may be anything.
func TestWhatIsLeftOpen(t *testing.T) {
	for _, n := range append([]int{-1, 0, 1, 5, 6}, far...) {
		for _, x := range []api.Call{done(read), open(write)} {
			x.Part = n
			sound(t, "partition", true, x)
			x.Stamp = n
			sound(t, "stamp", true, x)
			x.Req, x.Ans = api.Request{Op: n, Port: n, Addr: uint64(n), Data: []uint32{1, 2}}, api.Answer{Code: api.Errno(n), Data: []uint32{1}, Valid: true, Count: n}
			sound(t, "request and answer", true, x)
		}
	}
	for i := range mixed() {
		sound(t, "stamp", true, changed(i, func(x *api.Call) { x.Stamp = -2 })...)
		sound(t, "answer", true, changed(i, func(x *api.Call) { x.Ans = api.Answer{Code: 77} })...)
	}
	// Any call may have a Saw, Mark and Ring, whatever it asks for.
	for op := range 11 {
		x := saws(lasts(with(done(op), 6), 1, 4, 10), 0)
		x.Ring = 7
		sound(t, "with all", true, with(done(write), 9), x)
	}
}

// P17.1: From is 0 or more, and rises.
func TestFrom(t *testing.T) {
	for _, x := range []struct {
		from int
		want bool
	}{{0, true}, {1, true}, {9, true}, {-1, false}, {-2, false}, {-9, false}} {
		for _, y := range []api.Call{lasts(done(send), 0, x.from, 9), lasts(open(send), 0, x.from, -1)} {
			sound(t, "one", x.want, y)
			sound(t, "the first one", x.want, y, lasts(done(send), 1, 10, 10))
		}
	}
	for _, n := range far {
		x := lasts(done(send), 0, n, math.MaxInt)
		sound(t, "far", n >= 0, x)
	}
	other := func(from int) api.Call { return lasts(done(read), 1, from, 90) }
	for _, x := range []struct {
		from int
		want bool
	}{{2, false}, {3, false}, {4, true}, {80, true}, {0, false}, {-1, false}, {math.MinInt, false}} {
		sound(t, "the second one", x.want, done(write), other(x.from))
		sound(t, "the second one, the first one not Done", x.want, open(write), other(x.from))
	}
	l := []api.Call{lasts(open(send), 0, 0, -1), lasts(open(send), 1, 1, -1), lasts(open(send), 2, 2, -1), lasts(open(send), 3, 3, -1)}
	sound(t, "one by one", true, l...)
	for i := range l {
		for j := range l {
			if i != j {
				turned := slices.Clone(l)
				turned[i], turned[j] = turned[j], turned[i]
				sound(t, "turned", false, turned...)
			}
			if i > 0 && j < i {
				same := slices.Clone(l)
				same[i].From = same[j].From
				sound(t, "two of one From", false, same...)
			}
		}
	}
}

// P17.1: T0 and Own0 - 1 are 0 or more.
func TestBeginnings(t *testing.T) {
	for _, n := range append([]int{-2, -1, 0, 1, 2}, far...) {
		for _, x := range []api.Call{done(write), open(write)} {
			if x.T0 = n; x.Done {
				x.T1 = math.MaxInt
			}
			sound(t, "T0", n >= 0, x)
		}
		x := done(write)
		x.Own0, x.Own1 = n, math.MaxInt
		sound(t, "Own0", n == 1, x)
		x = open(write)
		x.Own0 = n
		sound(t, "Own0", n == 1, x)
		// Of a call that isn't its partition's first one.
		x, y := done(write), lasts(done(read), 0, 10, 12)
		y.T0, y.T1, y.Own0, y.Own1 = 5, 5, n, math.MaxInt
		x.Own1 = n - 1
		sound(t, "Own0", n >= 2, x, y)
	}
	// Numbers that would be right together, if both were less.
	x, y := done(write), lasts(open(read), 0, 10, -1)
	x.Own0, x.Own1, y.Own0, y.T0 = -3, -1, 0, 6
	sound(t, "below", false, x, y)
	x.Own0 = 0
	sound(t, "below", false, x, y)
}

// P17.1: of one that is Done To, T1 and Own1 are From, T0 and Own0 or more, of any other one -1.
func TestEnds(t *testing.T) {
	for _, x := range []struct {
		name  string
		begun int
		at    func(x *api.Call) *int
	}{
		{"To", 3, func(x *api.Call) *int { return &x.To }},
		{"T1", 2, func(x *api.Call) *int { return &x.T1 }},
		{"Own1", 1, func(x *api.Call) *int { return &x.Own1 }},
	} {
		for _, n := range append([]int{-2, -1, 0, 1, 2, 3, 4, 5, 9}, far...) {
			y := done(send)
			*x.at(&y) = n
			sound(t, x.name+" of one that is Done", n >= x.begun, y)
			y = open(send)
			*x.at(&y) = n
			sound(t, x.name+" of another one", n == -1, y)
			// Behind a call of its partition, and ahead of one of another.
			for _, i := range []int{5, 7} {
				l := changed(i, func(y *api.Call) { *x.at(y) = n })
				if i == 7 {
					sound(t, x.name+" of the last one", n == -1, l...)
				} else if n < map[string]int{"To": 13, "T1": 3, "Own1": 8}[x.name] {
					sound(t, x.name+" of one amidst", false, l...)
				}
			}
		}
	}
	// All of them together.
	x := done(send)
	x.To, x.T1, x.Own1 = 3, 2, 1
	sound(t, "with its first step", true, x)
	x.To, x.T1, x.Own1 = -1, -1, -1
	sound(t, "Done, with no end", false, x)
	x = open(send)
	x.To, x.T1, x.Own1 = 9, 5, 4
	sound(t, "not Done, with an end", false, x)
	x.To, x.T1, x.Own1 = 0, 0, 0
	sound(t, "not Done, with zeroes", false, x)
}

// P17.1: Mark is -1, or From or more, and, if it is Done, To or less.
func TestMark(t *testing.T) {
	for _, n := range append([]int{-2, -1, 0, 1, 2, 3, 4, 8, 9, 10, 11}, far...) {
		sound(t, "Done", n == -1 || n >= 3 && n <= 9, with(done(poke), n))
		sound(t, "not Done", n == -1 || n >= 3, with(open(poke), n))
		one := lasts(done(poke), 0, 3, 3)
		sound(t, "Done with its first step", n == -1 || n == 3, with(one, n))
		one = lasts(done(poke), 0, 0, 2)
		sound(t, "Done, from 0 on", n >= -1 && n <= 2, with(one, n))
		sound(t, "not Done, from 0 on", n >= -1, with(lasts(open(poke), 0, 0, -1), n))
	}
}

// P17.1: Ring is -1, or above Mark, Mark being 0 or more, and, if it is Done, To or less.
func TestRing(t *testing.T) {
	for _, n := range append([]int{-2, -1, 0, 1, 2, 3, 4, 5, 6, 7, 8, 9, 10, 11}, far...) {
		for _, mark := range []int{-1, 3, 4, 5, 6, 8, 9} {
			x := with(done(send), mark)
			x.Ring = n
			sound(t, "Done", n == -1 || mark >= 0 && n > mark && n <= 9, x)
			x = with(open(send), mark)
			x.Ring = n
			sound(t, "not Done", n == -1 || mark >= 0 && n > mark, x)
			// A Mark that may not be isn't made up for by a Ring.
			for _, wrong := range []int{-2, 2, math.MinInt} {
				x.Mark = wrong
				sound(t, "with a wrong Mark", false, x)
			}
		}
		x := with(lasts(done(send), 0, 0, 2), 0)
		x.Ring = n
		sound(t, "Mark 0", n == -1 || n == 1 || n == 2, x)
	}
}

// P17.1: of two calls of one partition with none of it between them the first one is Done and ahead of the second one, its T1 is at most the second one's T0, its Own1 and one the second one's Own0.
func TestSideBySide(t *testing.T) {
	second := func() api.Call {
		y := lasts(done(read), 0, 10, 12)
		y.T0, y.T1, y.Own0, y.Own1 = 5, 6, 5, 9
		return y
	}
	open2 := second()
	open2.Done, open2.To, open2.T1, open2.Own1 = false, -1, -1, -1
	for _, y := range []api.Call{second(), open2} {
		// With calls of other partitions between them: more and more.
		between := []api.Call{lasts(done(poke), 1, 4, 5), lasts(done(poke), 2, 6, 40), lasts(open(poke), 3, 7, -1), lasts(open(poke), -1, 8, -1)}
		for n := range len(between) + 1 {
			around := func(want bool, what string, x api.Call, y api.Call) {
				t.Helper()
				sound(t, what, want, slices.Concat([]api.Call{x}, between[:n], []api.Call{y})...)
			}
			around(true, "as they should be", done(write), y)
			around(false, "the first one not Done", open(write), y)
			x := done(write)
			x.Done = false
			around(false, "the first one not Done, with its end", x, y)
			for to := 3; to < 13; to++ {
				around(to < 10, "To", lasts(done(write), 0, 3, to), y)
			}
			around(false, "To", lasts(done(write), 0, 3, math.MaxInt), y)
			for _, t1 := range []int{2, 3, 4, 5, 6, 7, 1 << 32, math.MaxInt} {
				x := done(write)
				x.T1 = t1
				around(t1 <= 5, "T1", x, y)
			}
			for _, own1 := range []int{1, 2, 3, 4, 5, 6, 1 << 32, 1<<32 + 4, math.MaxInt} {
				x := done(write)
				x.Own1 = own1
				around(own1 == 4, "Own1", x, y)
			}
			z := y
			if z.Own0 = 1; z.Done {
				z.Own1 = 9
			}
			around(false, "the second one as if it were the first one", done(write), z)
		}
	}
	// What is asked of two side by side isn't asked of the next but one.
	x, y, z := done(write), second(), lasts(open(send), 0, 13, -1)
	z.T0, z.Own0 = 6, 10
	sound(t, "three", true, x, y, z)
	z.Own0 = 5
	sound(t, "three, the third one as the second one", false, x, y, z)
	sound(t, "the second one not there, the third one in its place", true, x, z)
	z.Own0 = 10
	sound(t, "the second one not there", false, x, z)
	sound(t, "the first one not there", false, y, z)
	// Neither of calls of several partitions: these may overlap, and have any steps and ticks.
	a, b := done(write), lasts(done(read), 1, 4, 6)
	b.T0, b.T1, b.Own1 = 0, 1, 9
	sound(t, "two partitions", true, a, b)
	sound(t, "two partitions, none Done", true, open(write), lasts(open(read), 1, 4, -1))
}

// P17.1: the first call of a partition has Own0 1.
func TestFirstOfAPartition(t *testing.T) {
	for _, n := range append([]int{-1, 0, 1, 2, 3, 5}, far...) {
		for _, partition := range []int{1, 5, -1, 1 << 32, -1 << 32} {
			x := lasts(open(read), partition, 4, -1)
			x.Own0 = n
			sound(t, "of another one", n == 1, done(write), x)
			sound(t, "of another one", n == 1, open(write), x)
		}
	}
	for _, i := range []int{0, 1, 2} {
		sound(t, "of the mixed ones", false, changed(i, func(x *api.Call) { x.Own0++ })...)
		sound(t, "of the mixed ones", false, changed(i, func(x *api.Call) { x.Own0-- })...)
		sound(t, "of the mixed ones: moved to another partition", false, changed(i, func(x *api.Call) { x.Part = 4 })...)
	}
}

// P17.1: Saw is -1, or the place of a Write in the list, whose Mark is 0 or more, and, if the call that Saw it is Done, at most that one's To.
func TestSaw(t *testing.T) {
	reader := lasts(done(read), 1, 4, 12)
	waiting := lasts(open(read), 1, 4, -1)
	writer := with(lasts(done(write), 0, 3, 20), 5)
	for _, n := range append([]int{-2, -1, 0, 1, 2, 3}, far...) {
		for _, x := range []api.Call{reader, waiting} {
			sound(t, "places", n == -1 || n == 0, writer, saws(x, n))
			sound(t, "places, the Write behind it", n == -1 || n == 1, saws(x, n), with(lasts(done(write), 0, 5, 20), 9))
			sound(t, "places, no Write", n == -1, saws(x, n))
			sound(t, "places, two Writes", n == -1 || n == 0 || n == 2, writer, saws(x, n), with(lasts(done(write), 2, 6, 20), 12))
		}
		// Of a call that isn't the last one of its partition.
		l := changed(5, func(x *api.Call) { x.Saw = n })
		sound(t, "of the mixed ones", n == -1 || n == 1, l...)
		l = changed(5, func(x *api.Call) { x.Saw = n })
		l[6].Mark = 20
		sound(t, "of the mixed ones", n == -1 || n == 1, l...)
	}
	l := changed(5, func(x *api.Call) { x.Saw = 6 })
	sound(t, "a Write that began behind it", true, l...)
	l[6].Mark = 20
	sound(t, "whose Mark is its To", true, l...)
	l[6].Mark = 21
	sound(t, "and one more", false, l...)
	l[6].Mark = -1
	sound(t, "and none", false, l...)
	for _, op := range others {
		x := writer
		x.Req.Op = op
		sound(t, "not a Write", false, x, saws(reader, 0))
		sound(t, "not a Write", false, x, saws(waiting, 0))
	}
	x := writer
	x.Req.Op = read
	sound(t, "a Read", false, x, saws(reader, 0))
	for _, writer := range []api.Call{writer, lasts(open(write), 0, 3, -1)} {
		for _, mark := range []int{-1, 3, 4, 5, 11, 12, 13, 14, 20} {
			sound(t, "Mark", mark >= 0 && mark <= 12, with(writer, mark), saws(reader, 0))
			sound(t, "Mark, not Done", mark >= 0, with(writer, mark), saws(waiting, 0))
		}
	}
	sound(t, "Mark 0", true, with(lasts(open(write), 0, 0, -1), 0), saws(reader, 0))
	sound(t, "a far Mark", false, with(lasts(open(write), 0, 0, -1), math.MaxInt), saws(reader, 0))
	sound(t, "a far Mark, not Done", true, with(lasts(open(write), 0, 0, -1), math.MaxInt), saws(waiting, 0))
	// Its end counts, not its Mark or its beginning.
	sound(t, "it is marked itself", true, with(writer, 11), saws(with(reader, 6), 0))
	// A Write that Saw: itself, or another one.
	sound(t, "itself", true, saws(with(done(write), 9), 0))
	sound(t, "itself, without a Mark", false, saws(done(write), 0))
}

// P17.3: of sound calls of one partition none overlap: of any two, whatever others there are between them, the first one is ahead of the second one.
func TestNeverOverlap(t *testing.T) {
	roll := dice()
	pairs := 0
	for range 200 {
		l := rolledCalls(roll, 1+roll(4), 120)
		sound(t, "rolled", true, l...)
		for j, y := range l {
			for _, x := range l[:j] {
				if x.Part != y.Part {
					continue
				}
				pairs++
				if !Ahead(x, y) || Ahead(y, x) || x.To >= y.From || x.Own1 >= y.Own0 || x.T1 > y.T0 {
					t.Fatalf("%+v and %+v", x, y)
				}
			}
		}
		// Two that overlap aren't sound: the first one of two is longer.
		i := roll(len(l))
		k := slices.IndexFunc(l[i+1:], func(x api.Call) bool { return x.Part == l[i].Part })
		if k < 0 {
			continue
		}
		l[i].To = l[i+1+k].From + roll(3)
		sound(t, "overlapping", false, l...)
	}
	if pairs < 1000 {
		t.Error(pairs)
	}
}
