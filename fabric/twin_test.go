package fabric

import (
	"iter"
	"reflect"
	"slices"
	"testing"

	"porthole/api"
	"porthole/bell"
	"porthole/frame"
	"porthole/layout"
	"porthole/mem"
	"porthole/part"
)

// event is what came of an act: whose step was done (-1: nobody's), of which request's call, and its move.
type event struct {
	tick int
	who  int
	own  int
	r    api.Request
	move api.Move
}

// twin is a machine by the chapter's words. It writes down all events; what is to be told of calls is made up of them anew each time.
type twin struct {
	c         api.Config
	m         *mem.Mem
	b         *bell.Set
	parts     []*part.Part
	tick      int
	events    []event
	delivered []api.Belling
}

func twinOf(t *testing.T, c api.Config, streams [][]api.Request) *twin {
	t.Helper()
	y := &twin{c: c}
	var e, n api.Errno
	y.m, e = mem.New(layout.Size(c))
	y.b, n = bell.New(2 * len(c.Chans))
	if e != ok || n != ok {
		t.Fatal(e, n)
	}
	for k, ch := range c.Chans {
		if ch.Kind == queuing {
			y.m.Store(uint64(layout.Source(c, k).From), ch.Boot)
			y.m.Store(uint64(layout.Dest(c, k).From), ch.Boot)
		}
	}
	for p := range c.Parts {
		var l []api.Request
		if p < len(streams) {
			l = streams[p]
		}
		y.parts = append(y.parts, part.New(c, p, l...))
	}
	return y
}

func (y *twin) do(act int) bool {
	e := event{tick: y.tick, who: -1}
	switch act {
	case pick0, pick1:
		p, is := frame.At(y.c.Frames[act], y.tick)
		if !is {
			break
		}
		x := y.parts[p]
		e.r = x.Next()
		if now, under := x.Now(); under {
			e.r = now
		}
		if e.move = x.Step(y.m, y.b, y.tick); e.move.Acted {
			e.who, e.own = p, x.Own()
		}
	case tick:
		y.tick++
		for _, f := range y.c.Frames {
			if p, is := frame.Enters(f, y.tick); is {
				y.deliver(p)
			}
		}
	default:
		return false
	}
	y.events = append(y.events, e)
	return true
}

func (y *twin) deliver(p int) {
	var ports []int
	for k, ch := range y.c.Chans {
		if ch.To == p && len(y.b.Take(2*k+1)) > 0 {
			ports = append(ports, 2*k+1)
		}
	}
	if ports != nil {
		y.delivered = append(y.delivered, api.Belling{Part: p, Ports: ports, At: len(y.events), Tick: y.tick, Own: y.parts[p].Own()})
	}
}

// calls are made up of the events so far.
func (y *twin) calls() []api.Call {
	var l []api.Call
	for at, e := range y.events {
		if e.who >= 0 && e.move.Begun {
			l = append(l, y.call(at))
		}
	}
	return l
}

// call is the one that begins at a moment.
func (y *twin) call(from int) api.Call {
	e := y.events[from]
	x := api.Call{Part: e.who, Req: e.r, From: from, To: -1, T0: e.tick, T1: -1, Own0: e.own, Own1: -1, Mark: -1, Ring: -1, Stamp: -1, Saw: -1}
	length := -1 // the moment at which a Read loads it
	for at := from; at < len(y.events) && !x.Done; at++ {
		s := y.events[at]
		if s.who != e.who {
			continue
		}
		if s.move.Did.Mark {
			x.Mark = at
		}
		if s.move.Did.Ring {
			x.Ring = at
		}
		if s.move.Did.Stamped {
			x.Stamp = s.tick
		}
		if s.move.Did.Buffer > 0 {
			length = at
		}
		if s.move.Did.Done {
			x.Done, x.Ans, x.To, x.T1, x.Own1 = true, s.move.Did.Ans, at, s.tick, s.own
		}
	}
	if x.Done && x.Req.Op == read && x.Ans.Code == ok {
		x.Saw = y.filler(length)
	}
	return bareCall(x)
}

// filler is the place of the last Write that began to fill, ahead of a moment, the buffer that is reached then.
func (y *twin) filler(moment int) int {
	reached := y.events[moment]
	for at := moment - 1; at >= 0; at-- {
		e := y.events[at]
		if e.who < 0 || e.r.Op != write || e.r.Port != reached.r.Port-1 || e.move.Did.Buffer != reached.move.Did.Buffer {
			continue
		}
		begun, last := 0, 0
		for _, s := range y.events[:at+1] {
			if s.who >= 0 && s.move.Begun {
				if s.who == e.who {
					last = begun
				}
				begun++
			}
		}
		return last
	}
	return -2
}

func (y *twin) state() state {
	s := state{words: bare(y.m.Words()), pending: bare(slices.Collect(y.b.All())), tick: y.tick, moment: len(y.events)}
	for _, x := range y.parts {
		s.places = append(s.places, place{bareStanding(x.Standing()), x.Own()})
	}
	return s
}

func (y *twin) whole() whole { return whole{y.state(), y.calls(), y.delivered} }

// alike tells a fault unless the machine tells what its twin does.
func alike(t *testing.T, f *Fabric, y *twin) {
	t.Helper()
	if got, want := lookAtAll(t, f, len(y.parts)), y.whole(); !reflect.DeepEqual(got, want) {
		t.Fatalf("%+v instead of\n%+v", got, want)
	}
}

// ways are all orders of so many noughts and ones.
func ways(zeros, ones int) iter.Seq[[]int] {
	return func(yield func([]int) bool) {
		acts := make([]int, zeros+ones)
		var fill func(at, zeros int) bool
		fill = func(at, zeros int) bool {
			if at == len(acts) {
				return yield(acts)
			}
			if zeros > 0 {
				acts[at] = 0
				if !fill(at+1, zeros-1) {
					return false
				}
			}
			if len(acts)-at > zeros {
				acts[at] = 1
				return fill(at+1, zeros)
			}
			return true
		}
		fill(0, zeros)
	}
}

// P16.1, P16.2: a write and a read of one channel, behind as many writes as are told, that run at once, in all ways in which their steps can follow each other: what is told of them in the end, and half-way.
func TestWriteAndReadInAllWays(t *testing.T) {
	c := two(sample(0, 1, 1, 9))
	for ahead := range 4 {
		from, to := stream(creates(0), normally), stream(creates(1), normally, reads(1))
		for n := range uint32(ahead) + 1 {
			from = append(from, writes(0, 50+n))
		}
		first := slices.Concat(times(2+8*ahead, pick0), times(2, pick1))
		var saw [2]int // how often the read Saw the write that runs with it, and the one ahead
		n := 0
		for acts := range ways(8, 7) {
			f, y := machine(t, c, from, to), twinOf(t, c, [][]api.Request{from, to})
			for i, act := range slices.Concat(first, acts) {
				if !f.Do(act) || !y.do(act) {
					t.Fatal("isn't done")
				}
				if i == len(first)+n%15 {
					alike(t, f, y)
				}
			}
			alike(t, f, y)
			n++
			for _, x := range calls(t, f) {
				if x.Saw < 0 {
					continue
				}
				if y := calls(t, f)[x.Saw]; !slices.Equal(x.Ans.Data, y.Req.Data) || y.Mark > x.To {
					t.Fatalf("%+v Saw %+v", x, y)
				}
				saw[(50+ahead)-int(x.Ans.Data[0])]++
			}
		}
		if n != 6435 || saw[0] == 0 || (saw[1] == 0) != (ahead == 0) || saw[0]+saw[1] != n && ahead > 0 {
			t.Error(ahead, n, saw)
		}
	}
}

// P16.1, P16.2: likewise a send and a receive of one queue, behind as many sends as are told, of which it holds one: what is told, and what is delivered behind.
func TestSendAndReceiveInAllWays(t *testing.T) {
	c := two(queue(0, 1, 1, 1, top))
	for ahead := range 3 {
		from, to := stream(creates(0), normally), stream(creates(1), normally, receives(1), receives(1))
		for n := range uint32(ahead) + 1 {
			from = append(from, sends(0, 50+n))
		}
		// The first one ahead has 6 own steps, a second one is in vain.
		first := slices.Concat(times(2+min(6*ahead, 4+2*ahead), pick0), times(2, pick1))
		ends := map[[3]api.Errno]int{}
		for acts := range ways(6, 7) {
			f, y := machine(t, c, from, to), twinOf(t, c, [][]api.Request{from, to})
			for i, act := range slices.Concat(first, acts, []int{tick}) {
				if !f.Do(act) || !y.do(act) {
					t.Fatal("isn't done")
				}
				if i == len(first)+6 {
					alike(t, f, y)
				}
			}
			alike(t, f, y)
			one, zero := answers(t, f, 1), answers(t, f, 0)
			ends[[3]api.Errno{zero[len(zero)-1].Code, one[2].Code, one[len(one)-1].Code}]++
		}
		if len(ends) < 2 {
			t.Error(ahead, ends)
		}
	}
}

// dice rolls numbers that are the same at each run.
func dice() func(n int) int {
	at := uint32(1)
	return func(n int) int {
		at = at*1664525 + 1013904223
		return int(at>>8) % n
	}
}

var (
	depths = []int{1, 2, 4, 8}
	boots  = []uint32{0, 1, 2, 5, 1<<31 - 1, 1 << 31, top - 9, top - 3, top - 1, top}
)

// rolledFrame is any frame with windows of these partitions, at least one of each.
func rolledFrame(roll func(n int) int, parts []int) api.Frame {
	var f api.Frame
	for i := range len(parts) + roll(3)*min(len(parts), 2) {
		p := parts[i%len(parts)]
		if roll(2) == 0 {
			f.Length += roll(3)
		}
		f.Windows = append(f.Windows, window(p, f.Length, 1+roll(3)))
		f.Length += f.Windows[i].Len
	}
	f.Length = max(1, f.Length+roll(2)*roll(3))
	return f
}

// rolledConfig is any configuration that is accepted.
func rolledConfig(roll func(n int) int) api.Config {
	var c api.Config
	var on [2][]int
	for p := range 1 + roll(6) {
		core := roll(2)
		c.Parts = append(c.Parts, api.Part{Core: core, Private: []int{0, 1, 3, 64}[roll(4)]})
		on[core] = append(on[core], p)
	}
	for core := range c.Frames {
		for i := range on[core] {
			j := i + roll(len(on[core])-i)
			on[core][i], on[core][j] = on[core][j], on[core][i]
		}
		c.Frames[core] = rolledFrame(roll, on[core])
	}
	parts := len(c.Parts)
	if parts == 1 {
		return c
	}
	for range roll(9) {
		from := roll(parts)
		to := (from + 1 + roll(parts-1)) % parts
		words := []int{1, 2, 1 + roll(maxWords), maxWords}[roll(4)]
		if roll(2) == 0 {
			c.Chans = append(c.Chans, queue(from, to, words, depths[roll(4)], boots[roll(len(boots))]))
		} else {
			c.Chans = append(c.Chans, sample(from, to, words, []int{0, roll(9), roll(99), 1 << 20}[roll(4)]))
		}
	}
	return c
}

// portsOfPart are the ports of a partition.
func portsOfPart(c api.Config, p int) (ports []int) {
	for k, ch := range c.Chans {
		if ch.From == p {
			ports = append(ports, 2*k)
		}
		if ch.To == p {
			ports = append(ports, 2*k+1)
		}
	}
	return ports
}

// list is n words from first on.
func list(first uint32, n int) []uint32 {
	l := make([]uint32, n)
	for i := range l {
		l[i] = first + uint32(i)
	}
	return l
}

// rolledRequest is any request, most often one that isn't refused, if the partition has made the port.
func rolledRequest(roll func(n int) int, c api.Config, p int) api.Request {
	ports := portsOfPart(c, p)
	at := 0
	for _, x := range c.Parts[:p] {
		at += x.Private
	}
	r := api.Request{Op: roll(11), Port: roll(2*len(c.Chans)+2) - 1, Addr: uint64(at + roll(c.Parts[p].Private+1)), Data: list(uint32(roll(1<<20)), []int{0, 1, 1, roll(18)}[roll(4)])}
	if len(ports) == 0 || roll(6) == 0 {
		return r
	}
	r.Port = ports[roll(len(ports))]
	ch := c.Chans[r.Port/2]
	if r.Op != peek && r.Op != poke && roll(12) > 0 {
		r.Op = []int{write, read, send, receive}[2*(ch.Kind-sampling)+r.Port%2]
		if roll(4) == 0 {
			r.Op = status
		}
	}
	if r.Op == write || r.Op == send {
		r.Data = list(uint32(roll(1<<20)), 1+roll(ch.Words))
	}
	return r
}

// rolledStream is any stream of a partition, most often one that makes most of its ports, and then begins normal work.
func rolledStream(roll func(n int) int, c api.Config, p int) (l []api.Request) {
	ports := portsOfPart(c, p)
	for i := range ports {
		j := i + roll(len(ports)-i)
		ports[i], ports[j] = ports[j], ports[i]
		if roll(12) > 0 {
			l = append(l, creates(ports[i]))
		}
		if roll(5) == 0 {
			l = append(l, rolledRequest(roll, c, p))
		}
	}
	if roll(12) > 0 {
		l = append(l, normally)
	}
	for range roll(60) {
		l = append(l, rolledRequest(roll, c, p))
	}
	return l
}

// rolledStreams are of most partitions, and sometimes of more than there are.
func rolledStreams(roll func(n int) int, c api.Config) (l [][]api.Request) {
	n := len(c.Parts)
	if roll(6) == 0 {
		n = roll(n + 3)
	}
	for p := range n {
		l = append(l, rolledStream(roll, c, min(p, len(c.Parts)-1)))
	}
	return l
}

// rolledAct is any act: each 40th one is none, and ticks are as many as are told of 40.
func rolledAct(roll func(n int) int, ticks int) int {
	switch n := roll(40); {
	case n == 0:
		return noActs[roll(len(noActs))]
	case n <= ticks:
		return tick
	}
	return roll(2)
}

// what tells of a call what came of it, for counting.
func what(x api.Call, l []api.Call) string {
	kind := []string{"none", "create", "normal", "write", "read", "send", "receive", "status", "peek", "poke", "none"}[x.Req.Op]
	switch {
	case !x.Done && x.Mark >= 0:
		return kind + " under way, marked"
	case !x.Done:
		return kind + " under way"
	case x.Saw >= 0 && l[x.Saw].From > x.From:
		return kind + " of a later write"
	case x.Ans.Valid:
		return kind + " valid"
	case x.Ans.Code == ok && x.Ans.Count > 0:
		return kind + " counts"
	case x.Ans.Code == ok && x.Req.Op == write && x.Mark < x.To:
		return kind + " marked early"
	case x.Ans.Code == ok:
		return kind
	case x.Ans.Code == noAction || x.Ans.Code == notAvailable:
		return kind + " in vain"
	}
	return "refused"
}

// P16.1, P16.2: any configurations, streams and scripts: behind each act the machine tells of itself what its twin does; of calls and deliveries now and then.
func TestAsItsTwin(t *testing.T) {
	roll := dice()
	count := map[string]int{}
	for range 250 {
		c := rolledConfig(roll)
		streams := rolledStreams(roll, c)
		f, y := machine(t, c, streams...), twinOf(t, c, streams)
		ticks := []int{1, 3, 6, 15}[roll(4)]
		for i := range 1200 {
			act := rolledAct(roll, ticks)
			if got, want := f.Do(act), y.do(act); got != want {
				t.Fatal(act, got)
			}
			if got, want := look(f, len(c.Parts)), y.state(); !reflect.DeepEqual(got, want) {
				t.Fatalf("act %d: %+v instead of %+v", i, got, want)
			}
			if roll(100) == 0 {
				alike(t, f, y)
			}
		}
		alike(t, f, y)
		l := calls(t, f)
		for _, x := range l {
			count[what(x, l)]++
		}
		for _, x := range bellings(t, f) {
			count["delivered"]++
			if len(x.Ports) > 1 {
				count["delivered together"]++
			}
		}
	}
	for x, least := range map[string]int{
		"refused": 500, "create": 500, "create in vain": 20, "normal": 200, "write": 200, "write marked early": 50, "write under way": 5, "write under way, marked": 1,
		"read valid": 100, "read": 50, "read in vain": 50, "read of a later write": 5, "read under way": 5,
		"send": 200, "send in vain": 50, "send under way": 5, "send under way, marked": 1, "receive": 100, "receive in vain": 50, "receive under way": 1,
		"status": 50, "status valid": 5, "status counts": 20, "peek": 50, "poke": 50, "delivered": 200, "delivered together": 10,
	} {
		if count[x] < least {
			t.Error(x, count[x], least)
		}
	}
	if t.Failed() {
		t.Log(count)
	}
}

// P16.1, P16.2: two partitions that do nothing but write and read, or send and receive, over and over, steps of the one in the midst of the other's: each read Saw what it found, and what is received is what was sent, in order.
func TestOverAndOver(t *testing.T) {
	roll := dice()
	for range 60 {
		c := two(sample(0, 1, 3, 40), queue(0, 1, 3, depths[roll(4)], boots[roll(len(boots))]), sample(1, 0, 2, 5))
		from, to := stream(creates(0), creates(2), creates(5), normally), stream(creates(1), creates(3), creates(4), normally)
		for n := range uint32(60) {
			from = append(from, []api.Request{writes(0, list(100*n, 1+roll(3))...), sends(2, list(100*n, 1+roll(3))...), reads(5)}[roll(3)])
			to = append(to, []api.Request{reads(1), receives(3), writes(4, list(100*n, 1+roll(2))...)}[roll(3)])
		}
		f, y := machine(t, c, from, to), twinOf(t, c, [][]api.Request{from, to})
		often := roll(2)
		for range 900 {
			act := roll(2)
			if roll(3) == 0 {
				act = often
			}
			if roll(25) == 0 {
				act = tick
			}
			f.Do(act)
			y.do(act)
		}
		alike(t, f, y)
		l := calls(t, f)
		var sent, got [][]uint32
		for _, x := range l {
			switch {
			case x.Req.Op == read && x.Done && x.Ans.Code == ok:
				w := l[x.Saw]
				if w.Req.Op != write || w.Req.Port != x.Req.Port-1 || !slices.Equal(w.Req.Data, x.Ans.Data) || x.Ans.Valid != (x.T1-w.Stamp <= c.Chans[x.Req.Port/2].Period) {
					t.Fatalf("%+v Saw %+v", x, w)
				}
			case x.Saw != -1:
				t.Fatalf("%+v", x)
			}
			switch {
			case x.Req.Op == send && x.Mark >= 0 && x.Ans.Code == ok:
				sent = append(sent, x.Req.Data)
			case x.Req.Op == receive && x.Done && x.Ans.Code == ok:
				got = append(got, x.Ans.Data)
			}
		}
		if len(got) == 0 || len(got) > len(sent) || !reflect.DeepEqual(got, sent[:len(got)]) {
			t.Fatal(got, sent)
		}
	}
}
