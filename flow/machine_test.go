package flow

import (
	"slices"
	"testing"

	"porthole/api"
	"porthole/fabric"
)

// twin are two machines of one configuration.
type twin [2]*fabric.Fabric

// twins are two at first, by their streams.
func twins(t *testing.T, c api.Config, streams ...[][]api.Request) twin {
	t.Helper()
	accepted(t, c)
	var both twin
	for i := range both {
		both[i], _ = fabric.New(c, streams[i]...)
	}
	return both
}

// run does acts of both, each of which has to be done.
func (both twin) run(t *testing.T, acts ...int) {
	t.Helper()
	for _, f := range both {
		if n := f.Run(acts...); n != len(acts) {
			t.Fatal(n, len(acts))
		}
	}
}

// views are a partition's sights, of both.
func (both twin) views(p int) (a, b []api.Sight) {
	return viewOf(both[0], p), viewOf(both[1], p)
}

// viewOf are a partition's sights, of a machine.
func viewOf(f *fabric.Fabric, p int) []api.Sight {
	var l []api.Call
	for _, x := range f.Calls() {
		l = append(l, x)
	}
	var b []api.Belling
	for _, x := range f.Bellings() {
		b = append(b, x)
	}
	return View(l, b, p)
}

// sameViews tells a fault unless the views of partition p are the same, or, if want is false, unless they are unlike.
func (both twin) sameViews(t *testing.T, what string, p int, want bool) {
	t.Helper()
	a, b := both.views(p)
	if Same(a, b) != want || alike(a, b) != want {
		t.Fatalf("%s: %d: not %v, of %+v and %+v", what, p, want, a, b)
	}
}

// often is an act so many times.
func often(n, act int) []int { return slices.Repeat([]int{act}, n) }

// working is a stream that makes ports, begins normal work, and goes on.
func working(ports []int, more ...api.Request) []api.Request {
	var l []api.Request
	for _, port := range ports {
		l = append(l, asks(create, port))
	}
	return slices.Concat(l, []api.Request{asks(normal, 0)}, more)
}

// between are two partitions, one a core, whose windows are open always, and channels.
func between(chans ...api.Chan) api.Config {
	return api.Config{
		Parts: []api.Part{{Core: 0, Private: 2}, {Core: 1, Private: 3}},
		Chans: chans,
		Frames: [2]api.Frame{
			{Length: 1, Windows: []api.Window{{Part: 0, Start: 0, Len: 1}}},
			{Length: 1, Windows: []api.Window{{Part: 1, Start: 0, Len: 1}}},
		},
	}
}

// acts are any: picks of both cores, at most so many of one behind the other, and now and then a tick.
func acts(roll dicer, n, ticks, most int) (l []int) {
	for len(l) < n {
		l = append(l, often(1+roll(most), roll(2))...)
		if roll(ticks) == 0 {
			l = append(l, tick)
		}
	}
	return l
}

// P21.3: who writes can't see whether, when or what the other one reads, nor anything else that it does.
func TestWriterSeesNothing(t *testing.T) {
	c := between(sample(0, 1))
	into(t, "the writer", c, 0, 0)
	put := working([]int{0}, asks(write, 0, 8, 9), asks(status, 0), asks(write, 0, 10), asks(peek, 0), asks(write, 0, 11, 12), asks(write, 0, 13))
	reads := slices.Repeat([]api.Request{asks(read, 1)}, 20)
	others := [][]api.Request{
		nil, working([]int{1}, reads...), working([]int{1}, reads[:1]...), reads,
		working([]int{1}, asks(status, 1), asks(read, 1), asks(poke, 1, 7), asks(read, 1)),
		slices.Repeat([]api.Request{{Op: poke, Addr: 3, Data: []uint32{99}}, {Op: 77}}, 20),
	}
	roll := dice()
	marks := map[bool]int{}
	for range 40 {
		script := acts(roll, 80, 9, 5)
		for _, x := range others {
			both := twins(t, c, [][]api.Request{put, others[1]}, [][]api.Request{put, x})
			for _, act := range script {
				both.run(t, act)
				both.sameViews(t, "the writer", 0, true)
			}
			marks[slices.Equal(marksOf(both[0], 0), marksOf(both[1], 0))]++
		}
	}
	// What the machine writes down of the writer isn't always the same: it isn't all seen.
	if marks[true] < 5 || marks[false] < 5 {
		t.Error(marks)
	}
}

// marksOf are the Marks of a partition's calls.
func marksOf(f *fabric.Fabric, p int) (l []int) {
	for _, x := range f.Calls() {
		if x.Part == p {
			l = append(l, x.Mark-x.From)
		}
	}
	return l
}

// unlike tells a fault unless the views of p are unlike behind a script, the one partition's streams being unlike, and the same, those being the same.
func unlike(t *testing.T, what string, c api.Config, p, from int, script []int, one, other []api.Request, others ...[]api.Request) {
	t.Helper()
	if !slices.Contains(Into(c, p), from) {
		t.Fatalf("%s: %d doesn't lead into %d", what, from, p)
	}
	streams := func(x []api.Request) [][]api.Request { return slices.Insert(slices.Clone(others), from, x) }
	both := twins(t, c, streams(one), streams(other))
	both.run(t, script...)
	both.sameViews(t, what, p, false)
	for _, x := range [][]api.Request{one, other} {
		both = twins(t, c, streams(x), streams(x))
		both.run(t, script...)
		both.sameViews(t, what, p, true)
	}
}

// P21.3: a sampling channel's edge carries something: who reads sees what was written, and when.
func TestReaderSees(t *testing.T) {
	c := between(sample(0, 1))
	get := working([]int{1}, asks(read, 1), asks(status, 1))
	put := func(more ...api.Request) []api.Request { return working([]int{0}, more...) }
	script := slices.Concat(often(11, pick0), often(4, tick), often(11, pick1))
	// A Write stores its stamp with its fifth step.
	late := slices.Concat(often(7, pick0), often(4, tick), often(5, pick0), often(11, pick1))
	for _, x := range []struct {
		what       string
		script     []int
		one, other []api.Request
	}{
		{"nothing", script, put(asks(write, 0, 8)), put()},
		{"another word", script, put(asks(write, 0, 8)), put(asks(write, 0, 9))},
		{"another second word", script, put(asks(write, 0, 8, 1)), put(asks(write, 0, 8, 2))},
		{"a word more", script, put(asks(write, 0, 8)), put(asks(write, 0, 8, 8))},
		{"too late", script, put(asks(write, 0, 8)), put(asks(peek, 0), asks(peek, 0), asks(write, 0, 8))},
		{"at another tick", late, put(asks(write, 0, 8)), put(asks(status, 0), asks(write, 0, 8))},
		{"no port", script, put(asks(write, 0, 8)), []api.Request{asks(normal, 0), asks(write, 0, 8)}},
	} {
		unlike(t, x.what, c, 1, 0, x.script, x.one, x.other, get)
	}
}

// P21.3: a queue's edge from its sender carries something: messages, how many there are, and bells.
func TestReceiverSees(t *testing.T) {
	c := between(queue(0, 1))
	put := func(more ...api.Request) []api.Request { return working([]int{0}, more...) }
	get := working([]int{1}, asks(receive, 1))
	script := slices.Concat(often(8, pick0), often(9, pick1))
	ticks := slices.Concat(often(2, pick1), often(8, pick0), often(1, tick))
	for _, x := range []struct {
		what       string
		script     []int
		one, other []api.Request
		get        []api.Request
	}{
		{"another word", script, put(asks(send, 0, 7)), put(asks(send, 0, 8)), get},
		{"nothing", script, put(asks(send, 0, 7)), put(), get},
		{"too late", script, put(asks(send, 0, 7)), put(asks(peek, 0), asks(peek, 0), asks(send, 0, 7)), get},
		{"no bell", ticks, put(asks(send, 0, 7)), put(), get},
		{"a bell too late", ticks, put(asks(send, 0, 7)), put(asks(status, 0), asks(send, 0, 7)), working([]int{1})},
		{"the count", script, put(asks(send, 0, 7)), put(), working([]int{1}, asks(status, 1))},
	} {
		unlike(t, x.what, c, 1, 0, x.script, x.one, x.other, x.get)
	}
}

// P21.3: a queue's edge from its receiver carries something: how much room there is.
func TestSenderSees(t *testing.T) {
	c := between(api.Chan{Kind: queuing, From: 0, To: 1, Words: 1, Depth: 1})
	put := func(more ...api.Request) []api.Request {
		return working([]int{0}, append([]api.Request{asks(send, 0, 7)}, more...)...)
	}
	get := func(more ...api.Request) []api.Request { return working([]int{1}, more...) }
	script := slices.Concat(often(8, pick0), often(7, pick1), often(8, pick0))
	for _, x := range []struct {
		what       string
		one, other []api.Request
		put        []api.Request
	}{
		{"room", get(asks(receive, 1)), get(), put(asks(send, 0, 8))},
		{"the count", get(asks(receive, 1)), get(), put(asks(status, 0))},
		{"too late", get(asks(receive, 1)), get(asks(peek, 2), asks(receive, 1)), put(asks(send, 0, 8))},
	} {
		unlike(t, x.what, c, 0, 1, script, x.one, x.other, x.put)
	}
	// The receiver's own stream is its own view's, too.
	unlike(t, "its own", c, 1, 1, script, get(asks(peek, 1)), get(asks(peek, 2)), put())
}

// P21.3: through one, two and three partitions: what is there to be read takes more steps to read, so what comes behind that comes later.
func TestSeesThroughOthers(t *testing.T) {
	for n := 1; n <= 3; n++ {
		for _, turned := range []bool{false, true} {
			var chans []api.Chan
			for p := range n + 1 {
				chans = append(chans, sample(p, p+1))
			}
			streams := [][]api.Request{}
			for p := 1; p <= n+1; p++ {
				x := working([]int{2*p - 1, 2 * p}, asks(read, 2*p-1), asks(write, 2*p, 1))
				if p == n+1 {
					x = working([]int{2*p - 1}, asks(read, 2*p-1))
				}
				streams = append(streams, x)
			}
			c := parts(n+2, chans...)
			if turned {
				// The last one's time comes first.
				for i := range c.Frames {
					slices.Reverse(c.Frames[i].Windows)
					for k := range c.Frames[i].Windows {
						c.Frames[i].Windows[k].Start = k
					}
				}
			}
			one, other := working([]int{0}, asks(write, 0, 7)), working([]int{0})
			script := through(c, n)
			unlike(t, "through others", c, n+1, 0, script, one, other, streams...)
			// Nobody leads into the first one.
			both := twins(t, c, append([][]api.Request{one}, streams...), [][]api.Request{one})
			both.run(t, script...)
			both.sameViews(t, "the first one", 0, true)
		}
	}
}

// through is a script with which the first one writes, if it writes at all, then each of n others reads, and has just so many steps left that its write is done if the read found nothing, and isn't if it found a word; then the last one reads.
func through(c api.Config, n int) []int {
	now := 0
	var l []int
	step := func(p, steps int) {
		on := c.Parts[p].Core
		for {
			for _, w := range c.Frames[on].Windows {
				if w.Part == p && w.Start == now%c.Frames[on].Length {
					l = append(l, often(steps, on)...)
					return
				}
			}
			l = append(l, tick)
			now++
		}
	}
	step(0, 2+8)
	for p := 1; p <= n; p++ {
		// A read that finds nothing has 5 steps, one that finds a word 7, a write of a word 8.
		step(p, 3+5+8)
	}
	step(n+1, 2+7)
	return l
}

// P21.3: who shares a core takes no time away that anybody sees.
func TestSharedCore(t *testing.T) {
	c := parts(4, sample(0, 2), queue(1, 3))
	roll := dice()
	streams := [][]api.Request{
		working([]int{0}, asks(write, 0, 8, 9), asks(poke, 0, 7), asks(write, 0, 10)),
		working([]int{2}, asks(send, 2, 7), asks(send, 2, 8), asks(status, 2), asks(send, 2, 9)),
		working([]int{1}, asks(read, 1), asks(read, 1), asks(peek, 6), asks(status, 1), asks(read, 1)),
		working([]int{3}, asks(receive, 3), asks(receive, 3), asks(status, 3), asks(receive, 3)),
	}
	for range 30 {
		script := acts(roll, 150, 6, 4)
		for p, leads := range [][]int{{0}, {1, 3}, {0, 2}, {1, 3}} {
			into(t, "one of four", c, p, leads...)
			others := slices.Clone(streams)
			for q := range others {
				if !slices.Contains(leads, q) {
					others[q] = others[q][:roll(len(others[q]))]
				}
			}
			both := twins(t, c, streams, others)
			for _, act := range script {
				both.run(t, act)
				both.sameViews(t, "one of four", p, true)
			}
		}
	}
}

// wide is of four to six partitions, by turns on one core and on the other, windows side by side with now and then nobody's time between them, and a few channels, most of them sampling, so that many don't lead into many.
func wide(roll dicer) api.Config {
	c := parts(4 + roll(3))
	for i := range c.Frames {
		at := 0
		for k := range c.Frames[i].Windows {
			w := &c.Frames[i].Windows[k]
			w.Start, w.Len = at+roll(2), 1+roll(2)
			at = w.Start + w.Len
		}
		c.Frames[i].Length = at + roll(2)
	}
	for range 2 + roll(4) {
		from := roll(len(c.Parts))
		to := (from + 1 + roll(len(c.Parts)-1)) % len(c.Parts)
		x := queue(from, to)
		x.Words, x.Depth = 1+roll(3), 1<<roll(3)
		if roll(3) > 0 {
			x = sample(from, to)
			x.Words, x.Period = 1+roll(3), roll(9)
		}
		c.Chans = append(c.Chans, x)
	}
	return c
}

// work is a stream of a partition, which makes its ports, begins normal work, and asks for anything, most often what its ports are for.
func work(roll dicer, c api.Config, p, n int) []api.Request {
	var ports []int
	for k, x := range c.Chans {
		if x.From == p {
			ports = append(ports, 2*k)
		} else if x.To == p {
			ports = append(ports, 2*k+1)
		}
	}
	if roll(12) == 0 {
		ports = ports[:len(ports)/2]
	}
	var more []api.Request
	for range n {
		x := api.Request{Op: roll(11), Port: roll(2*len(c.Chans)) + roll(2), Addr: uint64(roll(20)), Data: []uint32{uint32(roll(99))}}
		if len(ports) > 0 && roll(5) > 0 {
			x.Port = ports[roll(len(ports))]
			ch := c.Chans[x.Port/2]
			x.Op = [][]int{{write, read}, {send, receive}}[ch.Kind-sampling][x.Port%2]
			if roll(6) == 0 {
				x.Op = status
			}
			for len(x.Data) < 1+roll(ch.Words) {
				x.Data = append(x.Data, uint32(roll(99)))
			}
		}
		more = append(more, x)
	}
	return working(ports, more...)
}

// works are streams of all partitions.
func works(roll dicer, c api.Config) (l [][]api.Request) {
	for p := range c.Parts {
		l = append(l, work(roll, c, p, 4+roll(30)))
	}
	return l
}

// others are the same streams, but those of partitions of which it is asked are others.
func others(roll dicer, c api.Config, streams [][]api.Request, whose func(p int) bool) [][]api.Request {
	l := slices.Clone(streams)
	for p := range l {
		if !whose(p) {
			continue
		}
		switch x := slices.Clone(l[p]); roll(5) {
		case 0:
			l[p] = nil
		case 1:
			l[p] = x[:roll(len(x))]
		case 2:
			// One request more.
			l[p] = slices.Insert(x, 1+roll(len(x)), work(roll, c, p, 1)...)
		default:
			l[p] = work(roll, c, p, roll(40))
		}
	}
	return l
}

// tallied counts what a view has: calls that were answered OK by what was asked for, deliveries, and what is under way at the end.
func tallied(l []api.Sight, answered map[int]int) {
	op := 0
	for _, x := range l {
		switch {
		case x.Kind == isBegun:
			op = x.Req.Op
		case x.Kind == isAnswered && x.Ans.Code == ok:
			answered[op]++
			op = 0
		case x.Kind == isAnswered:
			answered[-int(x.Ans.Code)]++
			op = 0
		default:
			answered[100]++
		}
	}
	if op != 0 {
		answered[101]++
	}
}

// P21.3: of any configuration, any script and any streams: streams of those that don't lead into p may be others, and p's view is the same, behind acts in the midst of the script too.
func TestViewsOfAnyMachines(t *testing.T) {
	roll := dice()
	count, unlike := map[int]int{}, 0
	for range 120 {
		c := wide(roll)
		streams := works(roll, c)
		script := acts(roll, 700, 2+roll(8), 1+roll(9))
		for p := range c.Parts {
			leads := Into(c, p)
			both := twins(t, c, streams, others(roll, c, streams, func(q int) bool { return !slices.Contains(leads, q) }))
			for left := script; len(left) > 0; {
				n := 1 + roll(min(150, len(left)))
				both.run(t, left[:n]...)
				left = left[n:]
				both.sameViews(t, "any", p, true)
			}
			sights, _ := both.views(p)
			tallied(sights, count)
			for q := range c.Parts {
				if a, b := both.views(q); !slices.Contains(leads, q) && !Same(a, b) {
					unlike++
				}
			}
		}
	}
	for _, x := range []int{create, normal, write, read, send, receive, status, peek, poke, -noAction, -notAvailable, 100, 101} {
		if count[x] < 20 {
			t.Error(x, count)
		}
	}
	if unlike < 500 {
		t.Error(unlike)
	}
}

// farFrom is how many edges there are at least from one partition to p, of those that lead into it, and, if it is one, whether it is of a sampling channel, of a queue from its sender, or from its receiver: 1, 2, 3.
func farFrom(c api.Config, from, p int) (steps, kind int) {
	for _, x := range c.Chans {
		switch {
		case x.From == from && x.To == p && x.Kind == sampling:
			return 1, 1
		case x.From == from && x.To == p:
			return 1, 2
		case x.To == from && x.From == p && x.Kind == queuing:
			return 1, 3
		}
	}
	for steps = 2; steps < len(c.Parts) && !leadsInto(c, from, p, steps); steps++ {
	}
	return steps, 0
}

// P21.3: where the streams of one that leads into p are unlike there are machines whose views of p are unlike, by each kind of edge, and through others.
func TestUnlikeViewsOfAnyMachines(t *testing.T) {
	roll := dice()
	count := map[[2]int]int{}
	for range 250 {
		c := wide(roll)
		streams := works(roll, c)
		script := acts(roll, 500, 2+roll(8), 1+roll(9))
		for p := range c.Parts {
			leads := Into(c, p)
			from := leads[roll(len(leads))]
			if from == p {
				continue
			}
			both := twins(t, c, streams, others(roll, c, streams, func(q int) bool { return q == from }))
			both.run(t, script...)
			if a, b := both.views(p); !Same(a, b) {
				steps, kind := farFrom(c, from, p)
				count[[2]int{steps, kind}]++
			}
		}
	}
	for _, x := range [][2]int{{1, 1}, {1, 2}, {1, 3}, {2, 0}} {
		if count[x] < 3 {
			t.Error(x, count)
		}
	}
}
