package wit

import (
	"reflect"
	"slices"
	"testing"

	"porthole/api"
	"porthole/fabric"
	"porthole/hist"
	"porthole/model"
)

// The document's kinds of channels and acts, told anew.
const (
	sampling = 1
	queuing  = 2

	pick0 = 0
	pick1 = 1
	tick  = 2
)

// between are two partitions, one a core, whose windows are open always, and channels from 0 to 1 or from 1 to 0.
func between(chans ...api.Chan) api.Config {
	return api.Config{
		Parts: []api.Part{{Core: 0, Private: 2}, {Core: 1, Private: 3}},
		Chans: chans,
		Frames: [2]api.Frame{
			{Length: 1, Windows: []api.Window{{Part: 0, Start: 0, Len: 1}}},
			{Length: 1, Windows: []api.Window{{Part: 1, Start: 0, Len: 1}}},
		},
	}
}

func sample(from, to, words int) api.Chan {
	return api.Chan{Kind: sampling, From: from, To: to, Words: words, Period: 3}
}

func queue(from, to, words, depth int) api.Chan {
	return api.Chan{Kind: queuing, From: from, To: to, Words: words, Depth: depth, Boot: 9}
}

func asks(op, port int, data ...uint32) api.Request {
	return api.Request{Op: op, Port: port, Data: data}
}

// machine is one at first.
func machine(t *testing.T, c api.Config, streams ...[]api.Request) *fabric.Fabric {
	t.Helper()
	f, defect := fabric.New(c, streams...)
	if defect != 0 {
		t.Fatal(defect)
	}
	return f
}

// written are the calls and the deliveries that a machine wrote down.
func written(f *fabric.Fabric) (l []api.Call, b []api.Belling) {
	for _, x := range f.Calls() {
		l = append(l, x)
	}
	for _, x := range f.Bellings() {
		b = append(b, x)
	}
	return l, b
}

// runs does acts of a machine, each of which has to be done.
func runs(t *testing.T, f *fabric.Fabric, acts ...int) {
	t.Helper()
	if n := f.Run(acts...); n != len(acts) {
		t.Fatal(n, len(acts))
	}
}

// often is an act so many times.
func often(n, act int) []int { return slices.Repeat([]int{act}, n) }

// begun are the acts with which both partitions make their ports, so many each, and begin normal work.
func begun(n, m int) []int { return slices.Concat(often(n+1, pick0), often(m+1, pick1)) }

// P19.2: a Write and Reads ahead of it and behind it.
func TestWriteThenRead(t *testing.T) {
	f := machine(t, between(sample(0, 1, 2)),
		[]api.Request{asks(create, 0), {Op: normal}, asks(write, 0, 8, 9)},
		[]api.Request{asks(create, 1), {Op: normal}, asks(read, 1), asks(read, 1), asks(read, 0)})
	// A Read that finds nothing, from 4 to 8; the Write, from 9 to 17, with which its effect is; a Read from 18 to 25; one that is refused.
	runs(t, f, slices.Concat(begun(1, 1), often(5, pick1), often(9, pick0), often(8, pick1), often(1, pick1))...)
	l, b := written(f)
	sound(t, "machine", l, b, told{0, isEffect, 0}, told{1, isEffect, 1}, told{2, isEffect, 2}, told{3, isEffect, 3},
		told{4, isEffect, 4}, told{17, isEffect, 5}, told{18, isEffect, 6}, told{26, isEffect, 7})
	couldHaveBeen(t, between(sample(0, 1, 2)), f)
	if last := l[6]; !last.Done || !slices.Equal(last.Ans.Data, []uint32{8, 9}) {
		t.Errorf("%+v", last)
	}
}

// P19.2: a Read that has begun ahead of the Mark of the Write that it finds.
func TestWriteInTheMidstOfARead(t *testing.T) {
	f := machine(t, between(sample(0, 1, 2)),
		[]api.Request{asks(create, 0), {Op: normal}, asks(write, 0, 8, 9), asks(write, 0, 10)},
		[]api.Request{asks(create, 1), {Op: normal}, asks(read, 1)})
	// All of the Write but its last step, from 4 to 11; the Read begins at 12, the Write ends at 13, and the Read finds it; another Write begins ahead of that one's end.
	runs(t, f, slices.Concat(begun(1, 1), often(8, pick0), []int{pick1, pick0, pick0}, often(7, pick1))...)
	l, b := written(f)
	sound(t, "machine", l, b, told{0, isEffect, 0}, told{1, isEffect, 1}, told{2, isEffect, 2}, told{3, isEffect, 3}, told{13, isEffect, 4}, told{13, isEffect, 5})
	couldHaveBeen(t, between(sample(0, 1, 2)), f)
	if x := l[5]; !x.Done || x.From != 12 || !slices.Equal(x.Ans.Data, []uint32{8, 9}) {
		t.Errorf("%+v", x)
	}
}

// P19.2: a Send with its bell, its delivery and a Receive.
func TestSendThenReceive(t *testing.T) {
	c := between(queue(0, 1, 1, 1))
	f := machine(t, c,
		[]api.Request{asks(create, 0), {Op: normal}, asks(send, 0, 7)},
		[]api.Request{asks(create, 1), {Op: normal}, asks(receive, 1), asks(receive, 1)})
	var want []told
	for _, x := range []struct {
		acts []int
		more []told
	}{
		{nil, nil},
		{begun(1, 1), []told{{0, isEffect, 0}, {1, isEffect, 1}, {2, isEffect, 2}, {3, isEffect, 3}}},
		// The Send begins at 4, and stores tail at 8.
		{often(4, pick0), nil},
		{often(1, pick0), []told{{8, isEffect, 4}}},
		{often(1, pick0), []told{{9, isRing, 4}}},
		{often(1, tick), []told{{10, isDeliver, 0}}},
		// The Receive begins at 11, and stores head at 15.
		{often(4, pick1), nil},
		{often(1, pick1), []told{{15, isEffect, 5}}},
		// The next one finds nothing.
		{often(2, pick1), []told{{17, isEffect, 6}}},
		{often(3, tick), nil},
	} {
		runs(t, f, x.acts...)
		want = append(want, x.more...)
		l, b := written(f)
		sound(t, "machine", l, b, want...)
		couldHaveBeen(t, c, f)
	}
}

// P19.2: the last example of the whole: the Send's store of tail and the Receive's load of tail, in both ways.
func TestBothWays(t *testing.T) {
	c := between(queue(0, 1, 1, 1))
	for _, x := range []struct {
		acts []int
		want []told
	}{
		{[]int{pick0, pick1, pick0, pick1, pick1, pick1}, []told{{9, isEffect, 4}, {11, isRing, 4}, {14, isEffect, 5}}},
		{[]int{pick1, pick0, pick0}, []told{{9, isEffect, 5}, {10, isEffect, 4}, {11, isRing, 4}}},
	} {
		f := machine(t, c, []api.Request{asks(create, 0), {Op: normal}, asks(send, 0, 7)}, []api.Request{asks(create, 1), {Op: normal}, asks(receive, 1)})
		runs(t, f, slices.Concat(begun(1, 1), often(4, pick0), often(1, pick1), x.acts)...)
		l, b := written(f)
		sound(t, "machine", l, b, append([]told{{0, isEffect, 0}, {1, isEffect, 1}, {2, isEffect, 2}, {3, isEffect, 3}}, x.want...)...)
		couldHaveBeen(t, c, f)
	}
}

// stretch is from when to when an item may have been; ends is false if it has no end.
type stretch struct {
	from, to int
	ends     bool
}

func stretchOf(l []api.Call, b []api.Belling, x told) stretch {
	switch x.kind {
	case isEffect:
		return stretch{l[x.of].From, l[x.of].To, l[x.of].Done}
	case isRing:
		return stretch{l[x.of].Ring, l[x.of].Ring, true}
	}
	return stretch{b[x.of].At, b[x.of].At, true}
}

// couldHaveBeen tells a fault unless all that a machine wrote down comes once, at moments that never fall, none behind what it is ahead of, and is in this order what the model does at once.
func couldHaveBeen(t *testing.T, c api.Config, f *fabric.Fabric) []told {
	t.Helper()
	l, b := written(f)
	got := all(All(l, b))
	if !hist.Sound(l...) || !slices.Equal(Order(l, b), items(got)) {
		t.Fatalf("%v, but %v, of %+v", Order(l, b), items(got), l)
	}
	inOrder(t, got)
	eachOnce(t, l, b, got)
	respectsTime(t, l, b, got)
	has := map[told]bool{}
	for _, x := range got {
		has[told{kind: x.kind, of: x.of}] = true
		if x.kind == isEffect && !l[x.of].Done && l[x.of].Mark < 0 {
			t.Fatalf("an effect of %+v", l[x.of])
		}
	}
	for i, x := range l {
		if x.Done && !has[told{kind: isEffect, of: i}] {
			t.Fatalf("no effect of %+v", x)
		}
	}
	atOnce(t, c, l, b, got)
	return got
}

// respectsTime tells a fault if an item stands behind one that it is ahead of.
func respectsTime(t *testing.T, l []api.Call, b []api.Belling, got []told) {
	t.Helper()
	for i, x := range got {
		from := stretchOf(l, b, x)
		for _, y := range got[i+1:] {
			if to := stretchOf(l, b, y); to.ends && to.to < from.from || x.kind == isRing && y.kind == isEffect && x.of == y.of {
				t.Fatalf("%v stands behind %v, of %v", y, x, got)
			}
		}
	}
}

// atOnce tells a fault unless the model comes to the same, item by item.
func atOnce(t *testing.T, c api.Config, l []api.Call, b []api.Belling, got []told) {
	t.Helper()
	m := model.New(c)
	for _, x := range got {
		switch x.kind {
		case isRing:
			if !m.Ring(l[x.of]) {
				t.Fatalf("no ring of %+v", l[x.of])
			}
		case isDeliver:
			if got, want := m.Deliver(b[x.of].Part), b[x.of].Ports; !slices.Equal(got, want) {
				t.Fatalf("%v instead of %+v", got, b[x.of])
			}
		default:
			if got, want := bare(m.Do(l[x.of])), bare(l[x.of].Ans); l[x.of].Done && !reflect.DeepEqual(got, want) {
				t.Fatalf("%+v instead of %+v", got, l[x.of])
			}
		}
	}
}

// bare is the same answer, its list none, if there is nothing in it.
func bare(x api.Answer) api.Answer {
	if len(x.Data) == 0 {
		x.Data = nil
	}
	return x
}

// wide is of four partitions, two a core, with windows side by side, and of channels of both kinds between them.
func wide(roll dicer) api.Config {
	c := api.Config{
		Parts: []api.Part{{Core: 0, Private: 1}, {Core: 1, Private: 2}, {Core: 0, Private: 0}, {Core: 1, Private: 1}},
		Frames: [2]api.Frame{
			{Length: 5, Windows: []api.Window{{Part: 0, Start: 0, Len: 2}, {Part: 2, Start: 2, Len: 2}}},
			{Length: 3, Windows: []api.Window{{Part: 3, Start: 0, Len: 1}, {Part: 1, Start: 1, Len: 2}}},
		},
	}
	for range 1 + roll(8) {
		from := roll(4)
		to := (from + 1 + roll(3)) % 4
		if roll(2) == 0 {
			c.Chans = append(c.Chans, sample(from, to, 1+roll(3)))
		} else {
			c.Chans = append(c.Chans, queue(from, to, 1+roll(3), 1<<roll(3)))
		}
	}
	return c
}

// work are streams of all partitions, each of which makes its ports, begins normal work, and asks for anything, most often what its ports are for.
func work(roll dicer, c api.Config, n int) [][]api.Request {
	var l [][]api.Request
	for p := range c.Parts {
		var ports []int
		for k, x := range c.Chans {
			if x.From == p {
				ports = append(ports, 2*k)
			} else if x.To == p {
				ports = append(ports, 2*k+1)
			}
		}
		var stream []api.Request
		for _, port := range ports {
			stream = append(stream, asks(create, port))
		}
		stream = append(stream, api.Request{Op: normal})
		for range n {
			x := api.Request{Op: roll(11), Port: roll(2 * len(c.Chans)), Addr: uint64(roll(5)), Data: []uint32{uint32(roll(99))}}
			if len(ports) > 0 && roll(5) > 0 {
				x.Port = ports[roll(len(ports))]
				ch := c.Chans[x.Port/2]
				x.Op = [][]int{{write, read}, {send, receive}}[ch.Kind-sampling][x.Port%2]
				for len(x.Data) < 1+roll(ch.Words) {
					x.Data = append(x.Data, uint32(roll(99)))
				}
			}
			stream = append(stream, x)
		}
		l = append(l, stream)
	}
	return l
}

// P19.2: of any calls and deliveries of a machine, the steps of its cores in any order.
func TestOfAnyMachine(t *testing.T) {
	roll := dice()
	count := map[int]int{}
	deferred, together := 0, 0
	for range 300 {
		c := wide(roll)
		f := machine(t, c, work(roll, c, 30)...)
		ticks := 2 + roll(12)
		for range 900 {
			act := roll(2)
			if roll(ticks) == 0 {
				act = tick
			}
			f.Do(act)
		}
		got := couldHaveBeen(t, c, f)
		l, _ := written(f)
		for i, x := range got {
			count[x.kind]++
			if x.kind == isEffect && x.moment > l[x.of].From && l[x.of].Mark < 0 {
				deferred++
			}
			if i > 0 && x.moment == got[i-1].moment {
				together++
			}
		}
	}
	if count[isEffect] < 10000 || count[isRing] < 1000 || count[isDeliver] < 1000 || deferred < 50 || together < 50 {
		t.Error(count, deferred, together)
	}
}

// P19.2: likewise behind each act, of two partitions whose windows are open always, steps of the one in the midst of the other's.
func TestBehindEachAct(t *testing.T) {
	roll := dice()
	deferred := 0
	for range 40 {
		c := between(sample(0, 1, 2), queue(0, 1, 2, 1<<roll(3)), sample(1, 0, 1))
		f := machine(t, c, work(roll, c, 20)...)
		for range 200 {
			act := roll(2)
			if roll(12) == 0 {
				act = tick
			}
			f.Do(act)
			couldHaveBeen(t, c, f)
		}
		l, b := written(f)
		for at, x := range All(l, b) {
			if y := l[x.Of%len(l)]; x.Kind == isEffect && y.Mark < 0 && at > y.From {
				deferred++
			}
		}
	}
	if deferred < 5 {
		t.Error(deferred)
	}
}
