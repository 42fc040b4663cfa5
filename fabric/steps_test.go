package fabric

import (
	"reflect"
	"slices"
	"testing"

	"porthole/api"
)

// step is what one call, behind some others, is to come to: its answer, how many own steps it has, and with which of them, from 1 on, it is marked, rings, and stores its stamp (0: with none); and the place of the call that it Saw.
type step struct {
	name              string
	zero, one         []api.Request // the streams: all but the last request of p's are answered ahead
	p                 int
	ans               api.Answer
	steps             int
	mark, ring, stamp int
	saw               int
}

// each has a call of each kind, and of each end that it may come to. Ahead of all in it 0 makes ports 0 and 2 and begins normal work, with calls 0 to 2, and 1 likewise with ports 1 and 3.
func each() []step {
	const no = -1
	fine := code(ok)
	l := []step{
		{"create", nil, nil, 0, code(noAction), 1, 1, 0, 0, no},
		{"normal", nil, stream(normally), 1, code(invalidMode), 1, 1, 0, 0, no},
		{"no request", stream(api.Request{}), nil, 0, code(invalidParam), 1, 1, 0, 0, no},
		{"first write", stream(writes(0, 8, 9)), nil, 0, fine, 9, 9, 0, 5, no},
		{"second write", stream(writes(0, 8, 9), writes(0, 5)), nil, 0, fine, 8, 7, 0, 5, no},
		{"third write", stream(writes(0, 8, 9), writes(0, 5), writes(0, 6, 7)), nil, 0, fine, 9, 8, 0, 5, no},
		{"write that is refused", stream(writes(0, 1, 2, 3)), nil, 0, code(invalidConfig), 1, 1, 0, 0, no},
		{"write by the reader", nil, stream(writes(1, 1)), 1, code(invalidMode), 1, 1, 0, 0, no},
		{"read of nothing", nil, stream(reads(1)), 1, code(noAction), 5, 0, 0, 0, no},
		{"read", stream(writes(0, 8, 9)), stream(reads(1)), 1, api.Answer{Data: []uint32{8, 9}, Valid: true}, 8, 0, 0, 0, 3},
		{"read of the second write", stream(writes(0, 8, 9), writes(0, 5)), stream(reads(1)), 1, api.Answer{Data: []uint32{5}, Valid: true}, 7, 0, 0, 0, 4},
		{"read of the third write", stream(writes(0, 8, 9), writes(0, 5), writes(0, 6, 7)), stream(reads(1)), 1, api.Answer{Data: []uint32{6, 7}, Valid: true}, 8, 0, 0, 0, 5},
		{"second read", stream(writes(0, 8)), stream(reads(1), reads(1)), 1, api.Answer{Data: []uint32{8}, Valid: true}, 7, 0, 0, 0, 3},
		{"read that is refused", stream(writes(0, 8, 9)), stream(reads(0)), 1, code(invalidParam), 1, 1, 0, 0, no},
		{"read by the writer", stream(writes(0, 8, 9), reads(0)), nil, 0, code(invalidMode), 1, 1, 0, 0, no},
		{"send", stream(sends(2, 4, 5, 6)), nil, 0, fine, 8, 7, 8, 0, no},
		{"short send", stream(sends(2, 4)), nil, 0, fine, 6, 5, 6, 0, no},
		{"send in vain", stream(sends(2, 1), sends(2, 2), sends(2, 3)), nil, 0, code(notAvailable), 2, 2, 0, 0, no},
		{"send that is refused", stream(sends(2)), nil, 0, code(invalidParam), 1, 1, 0, 0, no},
		{"receive", stream(sends(2, 4, 5, 6)), stream(receives(3)), 1, data(4, 5, 6), 7, 7, 0, 0, no},
		{"receive in vain", nil, stream(receives(3)), 1, code(notAvailable), 2, 2, 0, 0, no},
		{"second receive in vain", stream(sends(2, 4)), stream(receives(3), receives(3)), 1, code(notAvailable), 2, 2, 0, 0, no},
		{"receive that is refused", stream(receives(2)), nil, 0, code(invalidMode), 1, 1, 0, 0, no},
		{"status of the queue's source", stream(sends(2, 1), sends(2, 1), asks(2)), nil, 0, api.Answer{Count: 2}, 2, 2, 0, 0, no},
		{"status of the queue's destination", stream(sends(2, 1)), stream(asks(3)), 1, api.Answer{Count: 1}, 2, 2, 0, 0, no},
		{"status of the source", stream(asks(0)), nil, 0, fine, 1, 1, 0, 0, no},
		{"status of the destination", stream(writes(0, 8)), stream(reads(1), asks(1)), 1, api.Answer{Valid: true}, 1, 1, 0, 0, no},
		{"peek", stream(pokes(1, 77), peeks(1)), nil, 0, data(77), 2, 2, 0, 0, no},
		{"peek elsewhere", stream(peeks(2)), nil, 0, code(accessFault), 1, 1, 0, 0, no},
		{"poke", nil, stream(pokes(2, 77)), 1, fine, 2, 2, 0, 0, no},
		{"poke elsewhere", nil, stream(pokes(1, 77)), 1, code(accessFault), 1, 1, 0, 0, no},
	}
	l[0].zero = stream(creates(2))
	for i := range l {
		l[i].zero = slices.Concat(stream(creates(0), creates(2), normally), l[i].zero)
		l[i].one = slices.Concat(stream(creates(1), creates(3), normally), l[i].one)
	}
	return l
}

// P16.2: each kind of call, at another tick with each of its steps: how it is told behind each of them, up to its answer and on.
func TestEachCall(t *testing.T) {
	c := two(sample(0, 1, 2, 99), queue(0, 1, 3, 2, 4))
	for _, x := range each() {
		streams := [2][]api.Request{x.zero, x.one}
		last := len(streams[x.p]) - 1
		f := machine(t, c, x.zero, x.one)
		// 0's calls come first, and then 1's: all but the last one of p's.
		for p := range 2 {
			n := len(streams[p])
			if p == x.p {
				n = last
			}
			for answered := 0; answered < n; {
				f.Do(p)
				answered = 0
				for _, y := range calls(t, f) {
					if y.Part == p && y.Done {
						answered++
					}
				}
			}
		}
		ahead := calls(t, f)
		_, moment := f.Now()
		_, own, _ := f.Standing(x.p)
		want := api.Call{Part: x.p, Req: streams[x.p][last], From: moment, To: -1, T0: 0, T1: -1, Own0: own + 1, Own1: -1, Mark: -1, Ring: -1, Stamp: -1, Saw: -1}
		for n := 1; n <= x.steps+2; n++ {
			now := n - 1 // each act is followed by a tick
			at := moment + 2*now
			if n == x.mark {
				want.Mark = at
			}
			if n == x.ring {
				want.Ring = at
			}
			if n == x.stamp {
				want.Stamp = now
			}
			if n == x.steps {
				want.Done, want.Ans, want.To, want.T1, want.Own1, want.Saw = true, x.ans, at, now, own+n, x.saw
			}
			f.Do(x.p)
			for range 2 {
				if got := calls(t, f); !reflect.DeepEqual(got, append(slices.Clone(ahead), want)) {
					t.Fatalf("%s: step %d: %+v instead of %+v behind %d calls", x.name, n, got[min(len(got)-1, len(ahead))], want, len(ahead))
				}
			}
			f.Do(tick)
		}
	}
}

// crossing is a sampling channel of messages of one word, and three writes beside a read, whose partitions make their ports first: with acts 0 to 3.
func crossing(t *testing.T, ahead int) *Fabric {
	t.Helper()
	f := machine(t, two(sample(0, 1, 1, 9)), stream(creates(0), normally, writes(0, 50), writes(0, 51), writes(0, 52)), stream(creates(1), normally, reads(1), reads(1)))
	f.Run(pick0, pick0, pick1, pick1)
	// A write of one word has 8 own steps, the one with which it begins counted.
	f.Run(times(8*ahead, pick0)...)
	return f
}

// P16.2: Saw is the last Write that began to fill the buffer that is read, not the first one that did; and a Write whose message is in another buffer isn't it.
func TestSawOfABufferFilledAgain(t *testing.T) {
	for ahead := range 4 {
		f := crossing(t, ahead)
		f.Run(times(7, pick1)...)
		want := api.Call{Part: 1, Req: reads(1), Ans: api.Answer{Data: []uint32{49 + uint32(ahead)}, Valid: true}, Done: true, From: 4 + 8*ahead, To: 10 + 8*ahead, Own0: 3, Own1: 9, Mark: -1, Ring: -1, Stamp: -1, Saw: 3 + ahead}
		if ahead == 0 {
			want.Ans, want.To, want.Own1, want.Saw = code(noAction), 8, 7, -1
		}
		got := calls(t, f)[4+ahead]
		if !reflect.DeepEqual(got, want) {
			t.Errorf("%d: %+v instead of %+v", ahead, got, want)
		}
	}
}

// P16.2: likewise of Writes that begin to fill a buffer in the midst of the Read, ahead of the step that loads the length: the first of three is answered ahead of the read, which loads latest; then the second one, and so much of the third one, come ahead of the read's further steps.
func TestSawInTheMidst(t *testing.T) {
	for _, x := range []struct {
		third int // how many steps of it come ahead of the rest of the read
		saw   int
		word  uint32
	}{
		{0, 6, 51}, {1, 6, 51}, // it hasn't touched anything
		{2, 6, 51}, {3, 6, 51}, // it loaded reading, and the slot of the pair that is read
		{4, 6, 51}, {5, 6, 51}, {6, 6, 51}, // it began to fill the buffer of the first one again, but that isn't read
		{7, 7, 52}, {8, 7, 52}, // it stored its index: that buffer is read
	} {
		f := crossing(t, 1)
		f.Run(pick1, pick1) // the read, call 5, begins, and loads latest
		f.Run(times(8+x.third, pick0)...)
		f.Run(times(4, pick1)...) // it loads the length with the third one of these
		if got := calls(t, f)[5]; got.Done || got.Saw != -1 || got.Mark != -1 {
			t.Errorf("%d: %+v", x.third, got)
		}
		f.Run(times(8, pick0)...)
		f.Do(pick1)
		want := api.Call{Part: 1, Req: reads(1), Ans: api.Answer{Data: []uint32{x.word}, Valid: true}, Done: true, From: 12, To: 34 + x.third, Own0: 3, Own1: 9, Mark: -1, Ring: -1, Stamp: -1, Saw: x.saw}
		if got := calls(t, f)[5]; !reflect.DeepEqual(got, want) {
			t.Errorf("%d: %+v instead of %+v", x.third, got, want)
		}
		// The write that it Saw began behind it.
		if l := calls(t, f); l[x.saw].From <= l[5].From || l[x.saw].Req.Data[0] != x.word {
			t.Errorf("%d: %+v", x.third, l[x.saw])
		}
	}
}

// P16.2: a Write that begins to fill a buffer behind the step that loads its length isn't what a Read Saw; the next Read's it may be.
func TestSawIsAheadOfTheLength(t *testing.T) {
	f := crossing(t, 1)
	f.Run(times(5, pick1)...)  // the read loads the length of the first one's buffer
	f.Run(times(16, pick0)...) // the two others go to the other pair
	f.Run(times(2, pick1)...)
	f.Run(times(7, pick1)...)
	l := calls(t, f)
	if x, y := l[5], l[8]; x.Saw != 4 || !slices.Equal(x.Ans.Data, []uint32{50}) || y.Saw != 7 || !slices.Equal(y.Ans.Data, []uint32{52}) {
		t.Errorf("%+v, %+v", x, y)
	}
}

// P16.2: two channels between the same two partitions: a Read Saw a Write of its own channel, though one of the other channel began to fill the buffer of the same pair and index since.
func TestSawOfItsChannel(t *testing.T) {
	c := two(sample(0, 1, 1, 9), sample(0, 1, 1, 9))
	f := machine(t, c, stream(creates(0), creates(2), normally, writes(0, 50), writes(2, 60), writes(0, 51), writes(2, 61)), stream(creates(1), creates(3), normally, reads(1), reads(3), reads(3), reads(1)))
	f.Run(slices.Concat(times(3, pick0), times(3, pick1), times(16, pick0), times(14, pick1), times(16, pick0), times(14, pick1))...)
	for i, x := range map[int]struct {
		saw  int
		word uint32
	}{8: {6, 50}, 9: {7, 60}, 12: {11, 61}, 13: {10, 51}} {
		if got := calls(t, f)[i]; got.Req.Op != read || got.Saw != x.saw || !slices.Equal(got.Ans.Data, []uint32{x.word}) {
			t.Errorf("%d: %+v", i, got)
		}
	}
}

// P16.2: a message that isn't valid any more was seen all the same.
func TestSawOfAnOldMessage(t *testing.T) {
	f := crossing(t, 1)
	f.Run(times(9, tick)...)
	f.Run(times(7, pick1)...)
	f.Do(tick)
	f.Run(times(7, pick1)...)
	if l := calls(t, f); !l[5].Ans.Valid || l[5].Saw != 4 || l[6].Ans.Valid || l[6].Saw != 4 || l[6].Ans.Code != ok {
		t.Errorf("%+v", l)
	}
}

// turns has 0 and 2 on core 1, 1 and 3 on core 0: senders have place 0 of a frame, receivers place 1 (3 place 2 as well, within its window). Of 2 ports 1, 3, 7 and 11 are destinations, of which 3 is a sampling channel's; of 3 ports 5 and 9.
func turns() api.Config {
	return api.Config{
		Parts: []api.Part{{Core: 1}, {Core: 0}, {Core: 1}, {Core: 0}},
		Chans: []api.Chan{queue(0, 2, 1, 2, 0), sample(0, 2, 1, 9), queue(0, 3, 1, 2, 0), queue(1, 2, 1, 2, 0), queue(1, 3, 1, 2, 0), queue(0, 2, 1, 2, 0)},
		Frames: [2]api.Frame{
			frameOf(3, window(1, 0, 1), window(3, 1, 2)),
			frameOf(3, window(0, 0, 1), window(2, 1, 1)),
		},
	}
}

// P16.1, P16.2: deliveries of a partition with several destination ports, rising, whatever the order of the sends is; of two partitions that are entered with one tick, core 0's ahead of core 1's; a bell that rings twice is delivered once; a sampling channel rings none; what isn't pending isn't delivered.
func TestDelivered(t *testing.T) {
	f := machine(t, turns(),
		stream(creates(0), creates(2), creates(4), creates(10), normally, sends(10, 1), writes(2, 1), sends(4, 1), sends(0, 1), sends(0, 2), sends(4, 3)),
		stream(creates(6), creates(8), normally, sends(8, 1), sends(6, 1), sends(8, 2)),
		stream(normally, normally, normally),
		stream(normally, normally),
	)
	var want []api.Belling
	tells := func(pending ...int) {
		t.Helper()
		if got := bellings(t, f); !reflect.DeepEqual(got, want) {
			t.Errorf("%+v instead of %+v", got, want)
		}
		if got := f.Pending(); !slices.Equal(got, pending) {
			t.Error(got, pending)
		}
	}
	// Of 0 all calls but the last one.
	f.Run(times(37, pick1)...)
	tells(1, 5, 11)
	f.Run(times(15, pick0)...)
	tells(1, 5, 7, 9, 11)
	f.Do(tick)
	want = []api.Belling{{Part: 3, Ports: []int{5, 9}, At: 52, Tick: 1}, {Part: 2, Ports: []int{1, 7, 11}, At: 52, Tick: 1}}
	tells()
	// Both receivers do two own steps, and then the frames begin anew.
	f.Run(pick1, pick0, pick1, pick0, tick, pick1, tick)
	tells()
	f.Run(slices.Concat(times(6, pick1), times(6, pick0))...)
	tells(5, 9)
	f.Do(tick)
	want = append(want, api.Belling{Part: 3, Ports: []int{5, 9}, At: 72, Tick: 4, Own: 2})
	tells()
	// Nothing is pending from here on: the entries with ticks 7, 10 and so on deliver nothing.
	f.Run(times(30, tick)...)
	tells()
	for p, want := range []int{43, 21, 2, 2} {
		if _, own, _ := f.Standing(p); own != want {
			t.Error(p, own)
		}
	}
}

// P16.1, P16.2: a bell that rings while its partition's window is open stays pending up to the next entry, be it that of a further window of the same turn; with the first tick of all nobody is entered.
func TestDeliveredWithAnEntry(t *testing.T) {
	c := two(queue(0, 1, 1, 8, 0))
	// 1 is entered with ticks 4, 5, 9, 13, 14 and 18.
	c.Frames[1] = frameOf(9, window(1, 0, 3), window(1, 4, 1), window(1, 5, 2))
	from := stream(creates(0), normally)
	for n := range uint32(6) {
		from = append(from, sends(0, n))
	}
	f := machine(t, c, from, stream(normally))
	f.Run(pick0, pick0)
	var want []api.Belling
	pending := false
	for now := 1; now <= 20; now++ {
		if slices.Contains([]int{1, 5, 6, 7, 10, 14}, now) {
			f.Run(times(6, pick0)...)
			pending = true
		}
		if got := slices.Equal(f.Pending(), []int{1}); got != pending {
			t.Fatal(now, f.Pending())
		}
		_, moment := f.Now()
		f.Do(tick)
		if slices.Contains([]int{4, 5, 9, 13, 14}, now) {
			want = append(want, api.Belling{Part: 1, Ports: []int{1}, At: moment, Tick: now})
			pending = false
		}
		if got := bellings(t, f); !reflect.DeepEqual(got, want) {
			t.Fatalf("%d: %+v instead of %+v", now, got, want)
		}
	}
}
