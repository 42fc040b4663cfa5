package order

import (
	"slices"
	"testing"

	"porthole/api"
	"porthole/fabric"
	"porthole/hist"
	"porthole/wit"
)

// machine is one at first.
func machine(t *testing.T, c api.Config, streams ...[]api.Request) *fabric.Fabric {
	t.Helper()
	f, defect := fabric.New(c, streams...)
	if defect != 0 {
		t.Fatal(defect)
	}
	return f
}

// written are the calls and the deliveries that a machine wrote down.
func written(f *fabric.Fabric) (l []api.Call, b []api.Belling) {
	for _, x := range f.Calls() {
		l = append(l, x)
	}
	for _, x := range f.Bellings() {
		b = append(b, x)
	}
	return l, b
}

// runs does acts of a machine, each of which has to be done.
func runs(t *testing.T, f *fabric.Fabric, acts ...int) {
	t.Helper()
	if n := f.Run(acts...); n != len(acts) {
		t.Fatal(n, len(acts))
	}
}

// often is an act so many times.
func often(n, act int) []int { return slices.Repeat([]int{act}, n) }

// P20.2: a Send with its bell, its delivery and a Receive, behind each act.
func TestSendThenReceive(t *testing.T) {
	c := between(queue(0, 1, 1, 1))
	f := machine(t, c, []api.Request{asks(create, 0), {Op: normal}, asks(send, 0, 7)}, []api.Request{asks(create, 1), {Op: normal}, asks(receive, 1), asks(receive, 1)})
	begun := []api.Item{effect(0), effect(1), effect(2), effect(3)}
	for _, x := range []struct {
		acts []int
		more []api.Item
	}{
		{nil, nil},
		{[]int{pick0, pick0, pick1, pick1}, begun},
		// The Send begins at 4, and stores tail at 8.
		{often(4, pick0), nil},
		{often(1, pick0), effects(4)},
		{often(1, pick0), []api.Item{ring(4)}},
		{often(1, tick), []api.Item{deliver(0)}},
		// The Receive begins at 11, and stores head at 15.
		{often(4, pick1), nil},
		{often(1, pick1), effects(5)},
		// The next one finds nothing.
		{often(2, pick1), effects(6)},
	} {
		runs(t, f, x.acts...)
		order := wit.Order(written(f))
		if n := len(order) - len(x.more); n < 0 || !slices.Equal(order[n:], x.more) {
			t.Fatalf("%v instead of %v", order, x.more)
		}
		l, b := written(f)
		valid(t, "machine", true, c, l, b, order...)
	}
	l, b := written(f)
	order := append(slices.Clone(begun), effect(4), ring(4), deliver(0), effect(5), effect(6))
	valid(t, "machine", true, c, l, b, order...)
	// The calls follow each other, so none can be changed for another one.
	for i := range order {
		for j := range i {
			valid(t, "changed for one another", false, c, l, b, swapped(order, i, j)...)
		}
	}
}

// P20.2: the Send's store of tail and the Receive's load of tail, in both ways: what of the one could have been couldn't of the other one.
func TestBothWays(t *testing.T) {
	c := between(queue(0, 1, 1, 1))
	ways := [][]api.Item{
		append(effects(0, 1, 2, 3, 4), ring(4), effect(5)),
		append(effects(0, 1, 2, 3, 5, 4), ring(4)),
	}
	for i, acts := range [][]int{{pick0, pick1, pick0, pick1, pick1, pick1}, {pick1, pick0, pick0}} {
		f := machine(t, c, []api.Request{asks(create, 0), {Op: normal}, asks(send, 0, 7)}, []api.Request{asks(create, 1), {Op: normal}, asks(receive, 1)})
		runs(t, f, slices.Concat(often(2, pick0), often(2, pick1), often(4, pick0), often(1, pick1), acts)...)
		l, b := written(f)
		valid(t, "this one", true, c, l, b, ways[i]...)
		valid(t, "the other one", false, c, l, b, ways[1-i]...)
		if !slices.Equal(wit.Order(l, b), ways[i]) {
			t.Error(wit.Order(l, b))
		}
	}
}

// P20.2: a Read that has begun ahead of the Mark of the Write that it finds: it could have been behind that alone.
func TestWriteInTheMidstOfARead(t *testing.T) {
	c := between(sample(0, 1, 2, 3))
	f := machine(t, c, []api.Request{asks(create, 0), {Op: normal}, asks(write, 0, 8, 9)}, []api.Request{asks(create, 1), {Op: normal}, asks(read, 1)})
	// All of the Write but its last step, from 4 to 11; the Read begins at 12, the Write ends at 13, and the Read finds it.
	runs(t, f, slices.Concat(often(2, pick0), often(2, pick1), often(8, pick0), []int{pick1, pick0}, often(6, pick1))...)
	l, b := written(f)
	valid(t, "the Read is under way", true, c, l, b, effects(0, 1, 2, 3, 4)...)
	valid(t, "it has no effect yet", false, c, l, b, effects(0, 1, 2, 3, 4, 5)...)
	runs(t, f, pick1)
	l, b = written(f)
	valid(t, "behind it", true, c, l, b, effects(0, 1, 2, 3, 4, 5)...)
	valid(t, "ahead of it", false, c, l, b, effects(0, 1, 2, 3, 5, 4)...)
	valid(t, "without it", false, c, l, b, effects(0, 1, 2, 3, 4)...)
}

// wide is of four partitions, two a core, with windows side by side, and of channels of both kinds between them.
func wide(roll dicer) api.Config {
	c := api.Config{
		Parts: []api.Part{{Core: 0, Private: 1}, {Core: 1, Private: 2}, {Core: 0, Private: 0}, {Core: 1, Private: 1}},
		Frames: [2]api.Frame{
			{Length: 5, Windows: []api.Window{{Part: 0, Start: 0, Len: 2}, {Part: 2, Start: 2, Len: 2}}},
			{Length: 3, Windows: []api.Window{{Part: 3, Start: 0, Len: 1}, {Part: 1, Start: 1, Len: 2}}},
		},
	}
	for range 1 + roll(8) {
		from := roll(4)
		to := (from + 1 + roll(3)) % 4
		if roll(2) == 0 {
			c.Chans = append(c.Chans, sample(from, to, 1+roll(3), roll(9)))
		} else {
			c.Chans = append(c.Chans, queue(from, to, 1+roll(3), 1<<roll(3)))
		}
	}
	return c
}

// work are streams of all partitions, each of which makes its ports, begins normal work, and asks for anything, most often what its ports are for.
func work(roll dicer, c api.Config, n int) [][]api.Request {
	var l [][]api.Request
	for p := range c.Parts {
		var ports []int
		var stream []api.Request
		for k, x := range c.Chans {
			if x.From == p {
				ports = append(ports, 2*k)
			} else if x.To == p {
				ports = append(ports, 2*k+1)
			}
		}
		for _, port := range ports {
			stream = append(stream, asks(create, port))
		}
		stream = append(stream, api.Request{Op: normal})
		for range n {
			x := api.Request{Op: roll(11), Port: roll(2 * len(c.Chans)), Addr: uint64(roll(5)), Data: []uint32{uint32(roll(99))}}
			if len(ports) > 0 && roll(5) > 0 {
				x.Port = ports[roll(len(ports))]
				ch := c.Chans[x.Port/2]
				x.Op = [][]int{{write, read, status}, {send, receive, status}}[ch.Kind-sampling][x.Port%2]
				for len(x.Data) < 1+roll(ch.Words) {
					x.Data = append(x.Data, uint32(roll(99)))
				}
			}
			stream = append(stream, x)
		}
		l = append(l, stream)
	}
	return l
}

// acts are any: picks of both cores, at most so many of one behind the other, and now and then a tick.
func acts(roll dicer, n, ticks, most int) (l []int) {
	for len(l) < n {
		l = append(l, often(1+roll(most), roll(2))...)
		if roll(ticks) == 0 {
			l = append(l, tick)
		}
	}
	return l
}

// P20.2: of any machines that have run, calls under way at the end among them, the order of layer 19 could have been.
func TestOfAnyMachine(t *testing.T) {
	roll := dice()
	count := map[int]int{}
	under := 0
	for range 200 {
		c := wide(roll)
		f := machine(t, c, work(roll, c, 30)...)
		runs(t, f, acts(roll, 700, 2+roll(12), 1+roll(9))...)
		l, b := written(f)
		if !hist.Sound(l...) {
			t.Fatalf("%+v", l)
		}
		order := wit.Order(l, b)
		valid(t, "machine", true, c, l, b, order...)
		for _, x := range order {
			count[x.Kind]++
			if x.Kind == isEffect && !l[x.Of].Done {
				under++
			}
		}
	}
	if count[isEffect] < 5000 || count[isRing] < 500 || count[isDeliver] < 500 || under < 10 {
		t.Error(count, under)
	}
}

// P20.2: likewise behind each act; an Effect of a call that isn't Done may lack, as long as nobody saw it.
func TestBehindEachAct(t *testing.T) {
	roll := dice()
	lacks := map[bool]int{}
	for range 20 {
		c := between(sample(0, 1, 2, 3), queue(0, 1, 2, 1<<roll(3)), sample(1, 0, 1, 3))
		f := machine(t, c, work(roll, c, 20)...)
		for _, act := range acts(roll, 250, 12, 14) {
			runs(t, f, act)
			l, b := written(f)
			order := wit.Order(l, b)
			valid(t, "machine", true, c, l, b, order...)
			for i, x := range order {
				if x.Kind == isEffect && !l[x.Of].Done {
					less := slices.Delete(slices.Clone(order), i, i+1)
					want := couldHaveBeen(c, l, b, less)
					valid(t, "one lacks", want, c, l, b, less...)
					lacks[want]++
				}
			}
		}
	}
	if lacks[true] < 20 || lacks[false] < 20 {
		t.Error(lacks)
	}
}

// ran is a machine's work.
func ran(t *testing.T, roll dicer) (api.Config, []api.Call, []api.Belling, []api.Item) {
	t.Helper()
	c := wide(roll)
	if roll(2) == 0 {
		c = between(sample(0, 1, 2, 3), queue(0, 1, 2, 1<<roll(3)), queue(1, 0, 1, 1))
	}
	f := machine(t, c, work(roll, c, 12)...)
	runs(t, f, acts(roll, 60+roll(200), 2+roll(12), 1+roll(9))...)
	l, b := written(f)
	order := wit.Order(l, b)
	valid(t, "machine", true, c, l, b, order...)
	return c, l, b, order
}

// P20.2: orders of the same items that couldn't have been are told to be so: two are changed for one another, the one of which is ahead of the other one.
func TestChangedForOneAnother(t *testing.T) {
	roll := dice()
	could, ahead, otherwise := 0, 0, 0
	for range 150 {
		c, l, b, order := ran(t, roll)
		for i := range order {
			for j := max(0, i-4); j < i; j++ {
				got := Valid(c, l, b, swapped(order, i, j)...)
				if want := couldHaveBeen(c, l, b, swapped(order, i, j)); got != want {
					t.Fatalf("%d and %d of %v: %v instead of %v, of %+v and %+v", i, j, order, got, want, l, b)
				}
				switch {
				case got:
					could++
				case Ahead(l, b, order[j], order[i]):
					ahead++
				default:
					otherwise++
				}
				if got && Ahead(l, b, order[j], order[i]) {
					t.Fatalf("%d and %d of %v, of %+v and %+v", i, j, order, l, b)
				}
			}
		}
		valid(t, "shuffled", couldHaveBeen(c, l, b, shuffled(dice(), order)), c, l, b, shuffled(dice(), order)...)
	}
	if could < 100 || ahead < 1000 || otherwise < 100 {
		t.Error(could, ahead, otherwise)
	}
}

// P20.2: with an answer that the model doesn't give, with Ports that aren't what it delivers, with an item less, and with one twice.
func TestTurned(t *testing.T) {
	roll := dice()
	turned := 0
	for range 60 {
		c, l, b, order := ran(t, roll)
		for i, x := range l {
			y := x
			switch roll(5) {
			case 0:
				y.Ans.Code = (x.Ans.Code + 1 + api.Errno(roll(9))) % 10
			case 1:
				y.Ans.Data = append(slices.Clone(x.Ans.Data), uint32(roll(2)))
			case 2:
				y.Ans.Valid = !x.Ans.Valid
			case 3:
				y.Ans.Count += 1 + roll(9)
			default:
				if y.Ans.Data = slices.Clone(x.Ans.Data); len(y.Ans.Data) == 0 {
					continue
				}
				y.Ans.Data[roll(len(y.Ans.Data))] ^= 1 << roll(32)
			}
			// Of one that isn't Done the answer isn't asked.
			valid(t, "another answer", !x.Done, c, with(l, i, y), b, order...)
			turned++
		}
		for i, x := range b {
			y := x
			y.Ports = [][]int{nil, append(slices.Clone(x.Ports), 2), append([]int{1}, x.Ports...), {x.Ports[0] + 2}, x.Ports[1:]}[roll(5)]
			valid(t, "other Ports", false, c, l, with(b, i, y), order...)
			y = x
			y.Part++
			valid(t, "another Part", false, c, l, with(b, i, y), order...)
		}
		due := dueItems(l, b)
		for i, x := range order {
			if slices.Contains(due, x) {
				valid(t, "one less", false, c, l, b, slices.Delete(slices.Clone(order), i, i+1)...)
			}
			valid(t, "one twice", false, c, l, b, slices.Insert(slices.Clone(order), roll(len(order)+1), x)...)
		}
	}
	if turned < 1000 {
		t.Error(turned)
	}
}
