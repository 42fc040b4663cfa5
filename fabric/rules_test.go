package fabric

import (
	"iter"
	"math"
	"reflect"
	"slices"
	"testing"

	"porthole/api"
)

// busy is a machine of trio that has done much: each of its lists has something in it, calls of each partition are under way, and a bell is pending.
func busy(t *testing.T) *Fabric {
	t.Helper()
	f := machine(t, trio(),
		stream(creates(0), normally, sends(0, 70, 71), sends(0, 72), sends(0, 73), pokes(1, 5)),
		stream(creates(1), creates(2), normally, writes(2, 9), receives(1), writes(2, 10), receives(1), asks(1)),
		stream(creates(3), normally, reads(3), reads(3)),
	)
	f.Run(slices.Concat(times(9, pick0), times(11, pick1), []int{tick}, times(9, pick0), []int{tick}, times(12, pick1), []int{tick}, times(6, pick0), []int{tick}, times(3, pick0))...)
	f.Run(slices.Concat([]int{tick, tick}, times(7, pick0), times(4, pick1))...)
	f.Run(tick, pick0, pick0)
	return f
}

// P16.2: Calls and Bellings stop when they are asked to, can be gone through again, and within each other, from place 0 on each time.
func TestGoingThrough(t *testing.T) {
	f := busy(t)
	all, deliveries := calls(t, f), bellings(t, f)
	if len(all) < 10 || len(deliveries) < 2 {
		t.Fatalf("%+v, %+v", all, deliveries)
	}
	goThrough(t, f.Calls(), all, bareCall)
	goThrough(t, f.Bellings(), deliveries, func(x api.Belling) api.Belling { return x })
	empty := machine(t, trio())
	goThrough(t, empty.Calls(), nil, bareCall)
	goThrough(t, empty.Bellings(), nil, func(x api.Belling) api.Belling { return x })
}

// goThrough tells a fault unless an iterator tells these, each time, as far as it is asked to.
func goThrough[T any](t *testing.T, it iter.Seq2[int, T], want []T, bare func(T) T) {
	t.Helper()
	if it == nil {
		t.Fatal("no iterator")
	}
	for most := 1; most <= len(want)+1; most++ {
		for range 2 {
			n := 0
			for i, x := range it {
				if i != n || !reflect.DeepEqual(bare(x), want[i]) {
					t.Fatalf("%d: %+v instead of %+v", i, x, want[n])
				}
				if n++; n == most {
					break
				}
			}
			if n != min(most, len(want)) {
				t.Fatal(most, n)
			}
		}
		// By hand: it isn't asked any further once it is told to stop.
		asked := 0
		it(func(int, T) bool {
			asked++
			return asked < most
		})
		if asked != min(most, len(want)) {
			t.Fatal(most, asked)
		}
	}
	outer := 0
	for i := range it {
		inner := 0
		for j, x := range it {
			if j != inner || !reflect.DeepEqual(bare(x), want[j]) {
				t.Fatal(i, j, x)
			}
			inner++
		}
		if i != outer || inner != len(want) {
			t.Fatal(i, inner)
		}
		outer++
	}
	if outer != len(want) {
		t.Fatal(outer)
	}
}

// R6, P16.2: iterators that were asked for ahead of all acts tell what there is when they are gone through.
func TestWhatThereIs(t *testing.T) {
	f := machine(t, two(queue(0, 1, 1, 1, 0)), stream(creates(0), normally, sends(0, 7)), stream(normally))
	asked, delivered := f.Calls(), f.Bellings()
	for range asked {
		t.Error("a call")
	}
	for range delivered {
		t.Error("a delivery")
	}
	for i, act := range []int{pick0, pick0, pick1, pick0, pick0, tick, pick0, pick0, pick0, pick0, tick, pick1, tick} {
		f.Do(act)
		goThrough(t, asked, calls(t, f), bareCall)
		goThrough(t, delivered, bellings(t, f), func(x api.Belling) api.Belling { return x })
		if n := len(calls(t, f)); n != min(i+1, 4) {
			t.Error(i, n)
		}
		if n := len(bellings(t, f)); (n == 1) != (i >= 10) {
			t.Error(i, n)
		}
	}
}

// P16.2: calls and deliveries are told as they are when they are told: the machine goes on while they are gone through.
func TestAsTheyAreWhenTheyAreTold(t *testing.T) {
	f := machine(t, two(queue(0, 1, 1, 1, 0)), stream(creates(0), normally, sends(0, 7)), stream(creates(1), normally, receives(1)))
	f.Run(pick0, pick0, pick0, pick1, pick1, pick1)
	var done []bool
	for i, x := range f.Calls() {
		if i == 3 {
			// Calls 2 and 5 are under way up to here.
			f.Run(slices.Concat(times(5, pick0), times(4, pick1))...)
		}
		done = append(done, x.Done)
		if i == 5 && (!slices.Equal(x.Ans.Data, []uint32{7}) || x.To != 14) {
			t.Errorf("%+v", x)
		}
	}
	if !slices.Equal(done, []bool{true, true, false, true, true, true}) {
		t.Error(done)
	}

	// Calls that begin, and deliveries that come, while they are gone through are there when it is their turn.
	var r []api.Request
	for n := range uint32(4) {
		r = append(r, sends(0, n))
	}
	f = machine(t, two(queue(0, 1, 1, 8, 0)), slices.Concat(stream(creates(0), normally), r))
	f.Run(pick0)
	n := 0
	for i, x := range f.Calls() {
		if i != n || i > 5 || x.From != []int{0, 1, 2, 8, 14, 20}[i] {
			t.Fatalf("%d: %+v", i, x)
		}
		n++
		f.Run(times(6, pick0)...)
		if i == 0 {
			f.Run(pick0)
		}
	}
	if n != 6 {
		t.Error(n)
	}
	f = machine(t, two(queue(0, 1, 1, 8, 0)), slices.Concat(stream(creates(0), normally), r))
	f.Run(append(times(8, pick0), tick)...)
	n = 0
	for i, x := range f.Bellings() {
		if i != n || i > 3 || x.Tick != i+1 {
			t.Fatalf("%d: %+v", i, x)
		}
		n++
		f.Run(append(times(6, pick0), tick)...)
	}
	if n != 4 {
		t.Error(n)
	}
}

// over writes over a list, spare room included.
func over[T any](l []T, x T) {
	l = l[:cap(l)]
	for i := range l {
		l[i] = x
	}
}

// R4: what is told may be written over by the caller, spare room included, without changing the machine.
func TestHandedOutIsNew(t *testing.T) {
	roll := dice()
	for range 40 {
		c := rolledConfig(roll)
		streams := rolledStreams(roll, c)
		f, y := machine(t, c, streams...), twinOf(t, c, streams)
		for range 600 {
			act := rolledAct(roll, 3)
			f.Do(act)
			y.do(act)
			if roll(3) == 0 {
				overWhole(lookAtAll(t, f, len(c.Parts)))
			}
		}
		overWhole(lookAtAll(t, f, len(c.Parts)))
		alike(t, f, y)
	}
}

// keep is the same with lists of its own.
func keep(x whole) whole {
	x.words, x.pending = slices.Clone(x.words), slices.Clone(x.pending)
	x.calls, x.bellings, x.places = slices.Clone(x.calls), slices.Clone(x.bellings), slices.Clone(x.places)
	for i := range x.calls {
		y := &x.calls[i]
		y.Req.Data, y.Ans.Data = slices.Clone(y.Req.Data), slices.Clone(y.Ans.Data)
	}
	for i := range x.bellings {
		x.bellings[i].Ports = slices.Clone(x.bellings[i].Ports)
	}
	for i := range x.places {
		s := &x.places[i].standing
		s.Made, s.Valid = slices.Clone(s.Made), slices.Clone(s.Valid)
	}
	return x
}

// overWhole writes over all lists of it, spare room included.
func overWhole(x whole) {
	over(x.words, 997)
	over(x.pending, -8)
	for _, y := range x.calls {
		over(y.Req.Data, 999)
		over(y.Ans.Data, 998)
	}
	for _, y := range x.bellings {
		over(y.Ports, -9)
	}
	for _, y := range x.places {
		over(y.standing.Made, -7)
		over(y.standing.Valid, -6)
	}
}

// R4: no two answers share memory: all is handed out twice, of which the one is written over, spare room included, and the other one stays; so does the machine.
func TestAnswersAreTheirOwn(t *testing.T) {
	f := busy(t)
	first, second := lookAtAll(t, f, 3), lookAtAll(t, f, 3)
	want := keep(first)
	overWhole(first)
	if !reflect.DeepEqual(second, want) {
		t.Errorf("%+v instead of %+v", second, want)
	}
	overWhole(second)
	if got := lookAtAll(t, f, 3); !reflect.DeepEqual(got, want) {
		t.Errorf("%+v instead of %+v", got, want)
	}
	// Each of these lists had something in it.
	var data, found, made, valid int
	for _, x := range want.calls {
		data, found = data+len(x.Req.Data), found+len(x.Ans.Data)
	}
	for _, x := range want.places {
		made, valid = made+len(x.standing.Made), valid+len(x.standing.Valid)
	}
	if data == 0 || found == 0 || made == 0 || valid == 0 || len(want.bellings) == 0 || len(want.pending) == 0 {
		t.Errorf("%+v", want)
	}
}

// room is a list with marked spare room behind it.
func room[T any](l []T, mark T) []T { return append(slices.Clone(l), mark, mark)[: len(l) : len(l)+2] }

// roomy is the same configuration and streams, each list with marked spare room.
func roomy(c api.Config, streams [][]api.Request) (api.Config, [][]api.Request) {
	c.Parts, c.Chans = room(c.Parts, api.Part{Core: -7}), room(c.Chans, api.Chan{Kind: -7})
	for i := range c.Frames {
		c.Frames[i].Windows = room(c.Frames[i].Windows, api.Window{Part: -7})
	}
	streams = room(streams, []api.Request{{Op: -7}})
	for i := range streams {
		streams[i] = room(streams[i], api.Request{Op: -7})
		for j := range streams[i] {
			streams[i][j].Data = room(streams[i][j].Data, 77)
		}
	}
	return c, streams
}

// full is a list with its spare room.
func full[T any](l []T) []T { return l[:cap(l)] }

// everything is all that a configuration and streams have, spare room included.
func everything(c api.Config, streams [][]api.Request) []any {
	l := []any{full(c.Parts), full(c.Chans), full(c.Frames[0].Windows), full(c.Frames[1].Windows), c.Frames[0].Length, c.Frames[1].Length, len(streams), full(streams)[len(streams):]}
	for _, x := range streams {
		l = append(l, len(x), full(x)[len(x):])
		for _, r := range x {
			l = append(l, r.Op, r.Port, r.Addr, full(r.Data))
		}
	}
	return l
}

// R4: what is handed in isn't changed, spare room included: the configuration's lists, the streams and their data, the acts.
func TestHandedInIsntChanged(t *testing.T) {
	roll := dice()
	for range 60 {
		plain := rolledConfig(roll)
		rolled := rolledStreams(roll, plain)
		before := everything(roomy(plain, rolled))
		c, streams := roomy(plain, rolled)
		var acts []int
		for range 500 {
			acts = append(acts, rolledAct(roll, 3))
		}
		script := room(acts, -7)
		f := machine(t, c, streams...)
		f.Run(script...)
		lookAtAll(t, f, len(c.Parts)+1)
		if after := everything(c, streams); !reflect.DeepEqual(after, before) {
			t.Fatalf("%v instead of %v", after, before)
		}
		if !slices.Equal(script, acts) || !slices.Equal(full(script)[len(acts):], []int{-7, -7}) {
			t.Fatal(script)
		}
	}
	// Nor of a configuration that isn't accepted.
	wrong := trio()
	wrong.Frames[1].Windows[0].Len = 9
	before := everything(roomy(wrong, [][]api.Request{{sends(0, 1)}}))
	c, streams := roomy(wrong, [][]api.Request{{sends(0, 1)}})
	if f, k := New(c, streams...); f != nil || k != 15 {
		t.Error(k)
	}
	if after := everything(c, streams); !reflect.DeepEqual(after, before) {
		t.Fatalf("%v instead of %v", after, before)
	}
}

// R4: what the caller writes behind New, and behind Run, into what was handed in makes no difference: all of it is written over, ahead of each act.
func TestHandedInIsntKept(t *testing.T) {
	roll := dice()
	for range 60 {
		c := rolledConfig(roll)
		streams := rolledStreams(roll, c)
		mine, own := roomy(c, streams)
		f, y := machine(t, mine, own...), twinOf(t, c, streams)
		for range 400 {
			over(mine.Parts, api.Part{Core: roll(2), Private: roll(65)})
			over(mine.Chans, api.Chan{Kind: roll(3), From: roll(3), To: roll(3), Words: roll(9), Depth: roll(9), Period: roll(9), Boot: uint32(roll(9))})
			for i := range mine.Frames {
				over(mine.Frames[i].Windows, window(roll(3), roll(3), roll(3)))
			}
			for _, l := range own {
				for i := range l {
					if l[i].Op >= 0 {
						over(l[i].Data, uint32(roll(99)))
					}
				}
				over(l, api.Request{Op: -1, Port: roll(9), Data: list(7, roll(3))})
			}
			if roll(9) == 0 {
				over(own, stream(normally, pokes(0, 1)))
			}
			acts := []int{rolledAct(roll, 3), rolledAct(roll, 3)}
			f.Run(acts...)
			y.do(acts[0])
			y.do(acts[1])
			over(acts, tick)
		}
		alike(t, f, y)
	}
}

// R4: one stream for two partitions, and two machines of one configuration and the same streams: they share nothing.
func TestHandedInTwice(t *testing.T) {
	c := trio()
	one := stream(normally, pokes(0, 3), pokes(2, 4), peeks(0), peeks(2))
	streams := [][]api.Request{one, one, one}
	f, y := machine(t, c, streams...), twinOf(t, c, streams)
	g, z := machine(t, c, streams...), twinOf(t, c, streams)
	roll := dice()
	for range 120 {
		act := rolledAct(roll, 5)
		f.Do(act)
		y.do(act)
		alike(t, f, y)
		if roll(3) > 0 {
			act = rolledAct(roll, 8)
			g.Do(act)
			z.do(act)
		}
		alike(t, g, z)
	}
}

// P16.3, R5: what a machine does hangs on its configuration, its streams and its script alone: not on what other machines do meanwhile, on what it is asked, on whether its acts are done one by one or in one go, nor on acts that aren't any.
func TestHangsOnNothingElse(t *testing.T) {
	roll := dice()
	for range 40 {
		c, other := rolledConfig(roll), rolledConfig(roll)
		streams := rolledStreams(roll, c)
		var script []int
		for range 700 {
			script = append(script, roll(2))
			if roll(15) == 0 {
				script = append(script, tick)
			}
		}
		once := machine(t, c, streams...)
		if got := once.Run(script...); got != len(script) {
			t.Fatal(got)
		}
		f, beside := machine(t, c, streams...), machine(t, other, rolledStreams(roll, other)...)
		for at := 0; at < len(script); {
			n := min(1+roll(9), len(script)-at)
			if got := f.Run(script[at : at+n]...); got != n {
				t.Fatal(got)
			}
			at += n
			beside.Run(roll(2), roll(2), roll(3))
			if f.Do(noActs[roll(len(noActs))]) {
				t.Fatal("does what is no act")
			}
			if roll(40) == 0 {
				lookAtAll(t, f, len(c.Parts)+2)
				for range f.Calls() {
					break
				}
			}
		}
		again := machine(t, c, streams...)
		for _, act := range script {
			again.Do(act)
		}
		want := lookAtAll(t, once, len(c.Parts))
		for _, x := range []*Fabric{f, again} {
			if got := lookAtAll(t, x, len(c.Parts)); !reflect.DeepEqual(got, want) {
				t.Fatalf("%+v instead of %+v", got, want)
			}
		}
	}
}

// P16.3: what a partition asks for later makes no difference to what was: two machines, of which the one's streams go on where the other one's end, do alike till the first of these ends is reached.
func TestUpToWhereTheyPart(t *testing.T) {
	roll := dice()
	compared := 0
	for range 80 {
		c := rolledConfig(roll)
		var streams, longer [][]api.Request
		for p := range c.Parts {
			l := rolledStream(roll, c, p)
			streams, longer = append(streams, l), append(longer, slices.Concat(l, rolledStream(roll, c, p)))
		}
		f, g := machine(t, c, streams...), machine(t, c, longer...)
		for atEnd := false; !atEnd; compared++ {
			if got, want := lookAtAll(t, g, len(c.Parts)), lookAtAll(t, f, len(c.Parts)); !reflect.DeepEqual(got, want) {
				t.Fatalf("%+v instead of %+v", got, want)
			}
			for p, l := range streams {
				answered := 0
				for _, x := range calls(t, f) {
					if x.Part == p && x.Done {
						answered++
					}
				}
				atEnd = atEnd || answered == len(l)
			}
			act := rolledAct(roll, 3)
			f.Do(act)
			g.Do(act)
		}
	}
	if compared < 1000 {
		t.Error(compared)
	}
}

// R1: whatever the requests, the acts and the numbers are: each call ends, and what is asked for is answered.
func TestAnything(t *testing.T) {
	far := []int{0, 1, 2, 3, 4, 5, 9, 10, 16, -1, -2, math.MinInt, math.MinInt32, math.MaxInt32, math.MaxInt, 1 << 32, 1<<32 + 1}
	addresses := []uint64{0, 1, 2, 4, 5, 26, 27, 1 << 16, 1 << 31, 1 << 32, 1<<32 + 1, 1 << 63, 1<<63 + 1, math.MaxUint64}
	roll := dice()
	c := trio()
	for range 60 {
		streams := [][]api.Request{stream(creates(0), normally), stream(creates(1), creates(2), normally), stream(creates(3), normally)}
		for p := range streams {
			for range 40 {
				r := api.Request{Op: []int{roll(11), far[roll(len(far))]}[roll(2)], Port: []int{roll(4), far[roll(len(far))]}[roll(2)], Addr: addresses[roll(len(addresses))], Data: list(1, []int{roll(4), 0, 17, 1000}[roll(4)])}
				streams[p] = slices.Insert(streams[p], roll(len(streams[p])+1), r)
			}
		}
		f, y := machine(t, c, streams...), twinOf(t, c, streams)
		for range 1500 {
			act := []int{pick0, pick1, pick0, pick1, tick, far[roll(len(far))]}[roll(6)]
			if got, want := f.Do(act), y.do(act); got != want {
				t.Fatal(act, got)
			}
		}
		alike(t, f, y)
		for p, l := range streams {
			if got := len(answers(t, f, p)); got != len(l) {
				t.Error(p, got, len(l))
			}
		}
	}
}

// R3: nil lists and empty ones are one, handed in.
func TestNoneAndEmpty(t *testing.T) {
	requests := func(data []uint32) []api.Request {
		return []api.Request{{Op: create, Port: 0, Data: data}, {Op: normal, Data: data}, {Op: write, Port: 0, Data: data}, {Op: status, Port: 0, Data: data}, {Op: poke, Data: data}, {Op: peek, Data: data}}
	}
	c, d := two(sample(0, 1, 1, 1)), two(sample(0, 1, 1, 1))
	c.Parts = []api.Part{{Core: 0, Private: 2}, {Core: 0}}
	c.Frames = [2]api.Frame{frameOf(2, window(0, 0, 1), window(1, 1, 1)), {Length: 1}}
	d.Parts, d.Frames = c.Parts, [2]api.Frame{c.Frames[0], {Length: 1, Windows: []api.Window{}}}
	f, g := machine(t, c, requests(nil), nil), machine(t, d, requests([]uint32{}), []api.Request{})
	for range 15 {
		f.Run(pick0, pick1, tick)
		g.Run(pick0, pick1, tick)
		if got, want := lookAtAll(t, g, 2), lookAtAll(t, f, 2); !reflect.DeepEqual(got, want) {
			t.Fatalf("%+v instead of %+v", got, want)
		}
	}
}

// The document's W3 and W6, as far as they hang on this layer: of any machine the bell of each send is delivered with the first entry of its destination's window behind the step that rings it, and not again without another one; a pick changes words of one partition's alone, and a tick none.
func TestBellsAndWords(t *testing.T) {
	roll := dice()
	delivered := 0
	for range 60 {
		c := rolledConfig(roll)
		f := machine(t, c, rolledStreams(roll, c)...)
		words := f.Words()
		rung := map[int]bool{}
		for range 700 {
			act := rolledAct(roll, 4)
			_, moment := f.Now()
			n := len(bellings(t, f))
			is := f.Do(act)
			if after := f.Words(); (act == tick || !is) && !slices.Equal(after, words) {
				t.Fatal("words change with", act)
			} else {
				changed := 0
				for at := range after {
					if after[at] != words[at] {
						changed++
					}
				}
				if changed > 1 {
					t.Fatal(changed, "words change with one act")
				}
				words = after
			}
			for _, x := range bellings(t, f)[n:] {
				if x.At != moment || act != tick || !slices.IsSorted(x.Ports) {
					t.Fatalf("%+v with act %d at %d", x, act, moment)
				}
				for _, port := range x.Ports {
					if !rung[port] || c.Chans[port/2].To != x.Part {
						t.Fatalf("%+v", x)
					}
					delete(rung, port)
					delivered++
				}
			}
			if is && act == tick {
				now, _ := f.Now()
				for _, of := range c.Frames {
					for _, w := range of.Windows {
						for port := range rung {
							if now%of.Length == w.Start && c.Chans[port/2].To == w.Part {
								t.Fatal("isn't delivered:", port)
							}
						}
					}
				}
			}
			for _, x := range calls(t, f) {
				if x.Ring == moment && is {
					rung[x.Req.Port+1] = true
				}
			}
		}
	}
	if delivered < 100 {
		t.Error(delivered)
	}
}
