package task

import (
	"math"
	"reflect"
	"slices"
	"testing"

	"porthole/api"
	"porthole/bell"
	"porthole/defect"
	"porthole/layout"
	"porthole/mem"
	"porthole/sign"
)

// The calls have the chapter's signatures.
var (
	_ func(api.Config, api.Standing, uint32, api.Request) (*Task, api.Answer, bool) = Begin
	_ func(*Task, *mem.Mem, *bell.Set, int) api.Did                                 = (*Task).Step
	_ func(*Task) int                                                               = (*Task).Steps
	_ func(*Task) uint32                                                            = (*Task).Own
)

// The document's codes, kinds, requests and bounds, told anew, so that a wrong one in the package is found.
const (
	ok            = 0
	noAction      = 1
	notAvailable  = 2
	invalidParam  = 3
	invalidConfig = 4
	invalidMode   = 5
	accessFault   = 6

	sampling = 1
	queuing  = 2

	create  = 1
	normal  = 2
	write   = 3
	read    = 4
	send    = 5
	receive = 6
	status  = 7
	peek    = 8
	poke    = 9

	maxWords = 16
	lastTick = 1<<31 - 1
	top      = math.MaxUint32
)

func sample(from, to, words, period int) api.Chan {
	return api.Chan{Kind: sampling, From: from, To: to, Words: words, Period: period}
}

func queue(from, to, words, depth int, boot uint32) api.Chan {
	return api.Chan{Kind: queuing, From: from, To: to, Words: words, Depth: depth, Boot: boot}
}

// config is of partitions with so many private words each, on both cores in turn, and of these channels.
func config(private []int, chans ...api.Chan) api.Config {
	c := api.Config{Chans: chans, Frames: [2]api.Frame{{Length: 8}, {Length: 8}}}
	for p, n := range private {
		c.Parts = append(c.Parts, api.Part{Core: p % 2, Private: n})
		f := &c.Frames[p%2]
		f.Windows = append(f.Windows, api.Window{Part: p, Start: p, Len: 1})
	}
	return c
}

// short has a channel of each kind from 0 to 1. Private are addresses 0 and 1 to partition 0, 2 to 4 to 1. Of ports 0 and 1 latest is address 5, the slots 6 and 7, the buffers from 8, 12, 16 and 20 on, reading 24; of ports 2 and 3 tail is 25, the cells from 26 and 30 on, head 34.
func short() api.Config { return config([]int{2, 3}, sample(0, 1, 2, 3), queue(0, 1, 3, 2, 0)) }

const (
	shortSize  = 35
	shortBells = 4
)

// mixed has channels of both kinds beside each other, in many directions; some numbers go round.
func mixed() api.Config {
	return config([]int{2, 0, 64},
		queue(0, 1, 1, 1, top),
		sample(0, 1, 1, 0),
		queue(1, 2, 3, 2, 0),
		queue(1, 2, 16, 8, top-3),
		sample(2, 0, 16, 7),
		sample(0, 2, 3, 1<<20),
		queue(2, 0, 5, 4, 77),
		sample(1, 0, 2, 5),
	)
}

// working is where a partition stands that works normally, and has made all of its ports; of these valid read a valid message last.
func working(c api.Config, p int, valid ...int) api.Standing {
	s := api.Standing{Part: p, Normal: true, Valid: valid}
	for k, ch := range c.Chans {
		if ch.From == p {
			s.Made = append(s.Made, 2*k)
		}
		if ch.To == p {
			s.Made = append(s.Made, 2*k+1)
		}
	}
	return s
}

// room is a list with marked spare room behind it.
func room[T any](l []T, mark T) []T { return append(slices.Clone(l), mark, mark)[:len(l)] }

// list is n words from first on.
func list(first uint32, n int) []uint32 {
	l := make([]uint32, n)
	for i := range l {
		l[i] = first + uint32(i)
	}
	return l
}

// held is a memory of these words.
func held(t *testing.T, words []uint32) *mem.Mem {
	t.Helper()
	m, e := mem.New(len(words))
	if e != ok {
		t.Fatal("no memory of", len(words))
	}
	for at, w := range words {
		m.Store(uint64(at), w)
	}
	return m
}

// blank is a memory of n noughts.
func blank(t *testing.T, n int) *mem.Mem { return held(t, make([]uint32, n)) }

// bells is n bells, of which these are pending.
func bells(t *testing.T, n int, pending ...int) *bell.Set {
	t.Helper()
	b, e := bell.New(n)
	if e != ok {
		t.Fatal("no bells:", n)
	}
	for _, i := range pending {
		if b.Ring(i) != ok {
			t.Fatal("no bell", i)
		}
	}
	return b
}

func pending(b *bell.Set) []int { return slices.Collect(b.All()) }

// told is what a step did; a list without words is none.
func told(d api.Did) api.Did {
	if len(d.Ans.Data) == 0 {
		d.Ans.Data = nil
	}
	return d
}

func same(a, b api.Did) bool { return reflect.DeepEqual(told(a), told(b)) }

func code(e api.Errno) api.Answer { return api.Answer{Code: e} }

// answered tells a fault unless the call is answered as it begins, by want.
func answered(t *testing.T, c api.Config, s api.Standing, own uint32, r api.Request, want api.Answer) {
	t.Helper()
	x, ans, is := Begin(c, s, own, r)
	if len(ans.Data) == 0 {
		ans.Data = nil
	}
	if x != nil || !is || !reflect.DeepEqual(ans, want) {
		t.Errorf("%+v at %+v: %v, %+v, %v instead of %+v", r, s, x, ans, is, want)
	}
}

// begin is a call that isn't answered as it begins.
func begin(t *testing.T, c api.Config, s api.Standing, own uint32, r api.Request) *Task {
	t.Helper()
	x, ans, is := Begin(c, s, own, r)
	if x == nil || is || !reflect.DeepEqual(ans, api.Answer{}) {
		t.Fatalf("%+v at %+v: %v, %+v, %v", r, s, x, ans, is)
	}
	if x.Steps() != 1 || x.Own() != own {
		t.Fatalf("%+v has begun with %d steps, own number %d instead of %d", r, x.Steps(), x.Own(), own)
	}
	return x
}

// due is what a step is to do: its tick, the word that it stores (none, if at is below 0), what it tells, and the own number behind it.
type due struct {
	now, at int
	word    uint32
	did     api.Did
	own     uint32
}

// does tells a fault unless the steps of x do what is due, one by one, up to the answer, change no word but that, and ring no bell but rings, when it is told; unless they are counted; and unless steps behind the answer do nothing.
func does(t *testing.T, x *Task, m *mem.Mem, b *bell.Set, rings int, l []due) {
	t.Helper()
	own := l[len(l)-1].own
	count := len(l) + 1
	for _, now := range []int{0, 900, lastTick} {
		l = append(l, due{now, -1, 0, nothing, own})
	}
	for i, d := range l {
		words, bells := m.Words(), pending(b)
		if d.at >= 0 {
			words[d.at] = d.word
		}
		if d.did.Ring && !slices.Contains(bells, rings) {
			bells = append(bells, rings)
			slices.Sort(bells)
		}
		if got := x.Step(m, b, d.now); !same(got, d.did) {
			t.Fatalf("step %d tells %+v instead of %+v", i+2, got, d.did)
		}
		if got := m.Words(); !slices.Equal(got, words) {
			t.Fatalf("step %d: %v instead of %v", i+2, got, words)
		}
		if got := pending(b); !slices.Equal(got, bells) {
			t.Fatalf("step %d: bells %v instead of %v", i+2, got, bells)
		}
		if got, want := x.Steps(), min(i+2, count); got != want {
			t.Fatalf("step %d: %d steps instead of %d", i+2, got, want)
		}
		if got := x.Own(); got != d.own {
			t.Fatalf("step %d: own number %d instead of %d", i+2, got, d.own)
		}
	}
}

// loads is due of a step that stores nothing.
func loads(now int, did api.Did, own uint32) due { return due{now, -1, 0, did, own} }

var (
	nothing = api.Did{}
	stamped = api.Did{Stamped: true}
	marked  = api.Did{Mark: true}
	ended   = api.Did{Done: true}
	both    = api.Did{Done: true, Mark: true}
	rung    = api.Did{Done: true, Ring: true}
	refused = api.Did{Done: true, Mark: true, Ans: api.Answer{Code: notAvailable}}
)

func buffer(n int) api.Did { return api.Did{Buffer: n} }

func unfound(n int) api.Did {
	return api.Did{Done: true, Ans: api.Answer{Code: noAction}, Buffer: n}
}

func found(valid bool, data ...uint32) api.Did {
	return api.Did{Done: true, Ans: api.Answer{Code: ok, Data: data, Valid: valid}}
}

func taken(data ...uint32) api.Did {
	return api.Did{Done: true, Mark: true, Ans: api.Answer{Code: ok, Data: data}}
}

func counts(n int) api.Did {
	return api.Did{Done: true, Mark: true, Ans: api.Answer{Code: ok, Count: n}}
}

// P13.1: a Create and a Normal that aren't refused are answered as they begin: of each port, whatever the other fields are.
func TestCreateAndNormal(t *testing.T) {
	for _, c := range []api.Config{short(), mixed()} {
		for port := range 2 * len(c.Chans) {
			p := c.Chans[port/2].From
			if port%2 == 1 {
				p = c.Chans[port/2].To
			}
			for _, own := range []uint32{0, 1, top} {
				s := api.Standing{Part: p}
				answered(t, c, s, own, api.Request{Op: create, Port: port}, code(ok))
				answered(t, c, s, own, api.Request{Op: normal, Port: port}, code(ok))
				answered(t, c, s, own, api.Request{Op: create, Port: port, Addr: 1 << 40, Data: []uint32{1, 2}}, code(ok))
				s.Made = []int{port + 1, port - 1}
				s.Valid = []int{port, port + 1}
				answered(t, c, s, own, api.Request{Op: create, Port: port}, code(ok))
				answered(t, c, s, own, api.Request{Op: normal, Port: -1, Addr: 1 << 40, Data: []uint32{1, 2}}, code(ok))
			}
		}
	}
}

// P13.1: a Status of a sampling channel's port, at either side, is answered as it begins: valid just if the port is among the standing's Valid.
func TestStatusOfASamplingChannel(t *testing.T) {
	for _, c := range []api.Config{short(), mixed()} {
		for k, ch := range c.Chans {
			if ch.Kind != sampling {
				continue
			}
			for port, p := range map[int]int{2 * k: ch.From, 2*k + 1: ch.To} {
				r := api.Request{Op: status, Port: port}
				other := port ^ 1
				for _, valid := range [][]int{{port}, {other, port}, {port, port + 2}, {port, port}, {99, -1, port}} {
					answered(t, c, working(c, p, valid...), 5, r, api.Answer{Code: ok, Valid: true})
				}
				for _, valid := range [][]int{nil, {}, {other}, {port + 2, port - 2}, {-port - 1, k + 100, port + 16, port + 1<<32}, slices.DeleteFunc(working(c, p).Made, func(n int) bool { return n == port })} {
					answered(t, c, working(c, p, valid...), 5, r, api.Answer{Code: ok})
				}
				answered(t, c, working(c, p, port), top, api.Request{Op: status, Port: port, Addr: 7, Data: []uint32{1}}, api.Answer{Code: ok, Valid: true})
			}
		}
	}
}

// P13.1: each kind of request at standings at which it is refused: its code, and no call.
func TestRefused(t *testing.T) {
	c := short()
	first, second := working(c, 0), working(c, 1)
	made := func(p int, ports ...int) api.Standing { return api.Standing{Part: p, Made: ports} }
	normally := func(p int, ports ...int) api.Standing { return api.Standing{Part: p, Normal: true, Made: ports} }
	for _, x := range []struct {
		s    api.Standing
		r    api.Request
		code api.Errno
	}{
		{api.Standing{Part: 2}, api.Request{Op: normal}, invalidConfig},
		{api.Standing{Part: -1}, api.Request{Op: peek}, invalidConfig},
		{api.Standing{Part: 2}, api.Request{Op: 10}, invalidConfig},
		{first, api.Request{}, invalidParam},
		{first, api.Request{Op: 10}, invalidParam},
		{second, api.Request{Op: -1, Port: 1}, invalidParam},
		{first, api.Request{Op: status + 1<<32, Port: 0}, invalidParam},
		{made(0), api.Request{Op: create, Port: 4}, invalidConfig},
		{made(0), api.Request{Op: create, Port: -1}, invalidConfig},
		{made(0), api.Request{Op: create, Port: 1}, invalidConfig},
		{made(1), api.Request{Op: create, Port: 2}, invalidConfig},
		{made(0, 0), api.Request{Op: create, Port: 0}, noAction},
		{normally(0, 0), api.Request{Op: create, Port: 0}, noAction},
		{normally(0), api.Request{Op: create, Port: 0}, invalidMode},
		{normally(0), api.Request{Op: normal}, invalidMode},
		{normally(0), api.Request{Op: write, Port: 0, Data: list(1, 1)}, invalidParam},
		{made(0, 0), api.Request{Op: write, Port: 0, Data: list(1, 1)}, invalidMode},
		{first, api.Request{Op: write, Port: 1, Data: list(1, 1)}, invalidParam},
		{first, api.Request{Op: write, Port: 2, Data: list(1, 1)}, invalidMode},
		{second, api.Request{Op: write, Port: 1, Data: list(1, 1)}, invalidMode},
		{second, api.Request{Op: write, Port: 3, Data: list(1, 1)}, invalidMode},
		{first, api.Request{Op: write, Port: 0}, invalidParam},
		{first, api.Request{Op: write, Port: 0, Data: list(1, 3)}, invalidConfig},
		{normally(1), api.Request{Op: read, Port: 1}, invalidParam},
		{made(1, 1), api.Request{Op: read, Port: 1}, invalidMode},
		{first, api.Request{Op: read, Port: 0}, invalidMode},
		{first, api.Request{Op: read, Port: 2}, invalidMode},
		{second, api.Request{Op: read, Port: 3}, invalidMode},
		{second, api.Request{Op: read, Port: 0}, invalidParam},
		{normally(0), api.Request{Op: send, Port: 2, Data: list(1, 1)}, invalidParam},
		{made(0, 2), api.Request{Op: send, Port: 2, Data: list(1, 1)}, invalidMode},
		{first, api.Request{Op: send, Port: 0, Data: list(1, 1)}, invalidMode},
		{second, api.Request{Op: send, Port: 3, Data: list(1, 1)}, invalidMode},
		{second, api.Request{Op: send, Port: 2, Data: list(1, 1)}, invalidParam},
		{first, api.Request{Op: send, Port: 2}, invalidParam},
		{first, api.Request{Op: send, Port: 2, Data: list(1, 4)}, invalidConfig},
		{normally(1), api.Request{Op: receive, Port: 3}, invalidParam},
		{made(1, 3), api.Request{Op: receive, Port: 3}, invalidMode},
		{first, api.Request{Op: receive, Port: 2}, invalidMode},
		{second, api.Request{Op: receive, Port: 1}, invalidMode},
		{second, api.Request{Op: receive, Port: 5}, invalidParam},
		{normally(0, 2), api.Request{Op: status, Port: 0}, invalidParam},
		{normally(0, 0), api.Request{Op: status, Port: 2}, invalidParam},
		{made(0, 0, 2), api.Request{Op: status, Port: 0}, invalidMode},
		{made(0, 0, 2), api.Request{Op: status, Port: 2}, invalidMode},
		{second, api.Request{Op: status, Port: 0}, invalidParam},
		{second, api.Request{Op: status, Port: -1}, invalidParam},
		{first, api.Request{Op: peek, Addr: 2}, accessFault},
		{second, api.Request{Op: peek, Addr: 1}, accessFault},
		{second, api.Request{Op: peek, Addr: 5}, accessFault},
		{first, api.Request{Op: peek, Addr: 1 << 32}, accessFault},
		{first, api.Request{Op: peek, Addr: math.MaxUint64}, accessFault},
		{first, api.Request{Op: poke, Addr: 0}, invalidParam},
		{first, api.Request{Op: poke, Addr: 0, Data: list(1, 2)}, invalidParam},
		{first, api.Request{Op: poke, Addr: 2, Data: list(1, 1)}, accessFault},
		{first, api.Request{Op: poke, Addr: 5, Data: list(1, 1)}, accessFault},
		{second, api.Request{Op: poke, Addr: 1, Data: list(1, 1)}, accessFault},
		{second, api.Request{Op: poke, Addr: 1<<63 + 2, Data: list(1, 1)}, accessFault},
	} {
		for _, own := range []uint32{0, 3, top} {
			answered(t, c, x.s, own, x.r, code(x.code))
			// What the standing tells of valid messages makes no difference to what is refused.
			x.s.Valid = []int{0, 1, 2, 3}
			answered(t, c, x.s, own, x.r, code(x.code))
		}
	}
}

// P13.1, R1: of a configuration that isn't accepted each request is refused.
func TestNoMachine(t *testing.T) {
	bent := []func(c *api.Config){
		func(c *api.Config) { *c = api.Config{} },
		func(c *api.Config) { c.Parts = nil },
		func(c *api.Config) { c.Parts[1].Core = 2 },
		func(c *api.Config) { c.Chans[0].Kind = 3 },
		func(c *api.Config) { c.Chans[0].Words = 0 },
		func(c *api.Config) { c.Chans[0].Words = -5 },
		func(c *api.Config) { c.Chans[0].To = 9 },
		func(c *api.Config) { c.Chans[1].Depth = 0 },
		func(c *api.Config) { c.Chans[1].Depth = 3 },
		func(c *api.Config) { c.Frames[0].Length = 0 },
		func(c *api.Config) { c.Frames[1].Windows = nil },
	}
	for i, bend := range bent {
		c := short()
		bend(&c)
		if defect.Accepts(c) {
			t.Fatal("accepted:", i)
		}
		for p := -1; p <= 2; p++ {
			s := working(short(), p, 0, 1)
			for op := -1; op <= 10; op++ {
				for port := -1; port <= 4; port++ {
					for _, data := range [][]uint32{nil, {1}, {1, 2}} {
						answered(t, c, s, 0, api.Request{Op: op, Port: port, Data: data}, code(invalidConfig))
					}
				}
			}
		}
	}
}

// P13.1: requests of all kinds, at all sorts of standings: what layer 10 refuses is answered by its code; of what it doesn't, just a Create, a Normal, and a Status of a sampling channel's port are answered as they begin.
func TestManyBegin(t *testing.T) {
	roll := dice()
	times := map[string]int{}
	for range 20000 {
		c, _ := rolledConfig(roll, sampling+roll(2))
		s := working(c, roll(len(c.Parts)))
		if roll(6) == 0 {
			s.Normal = false
		}
		for range roll(4) {
			if n := len(s.Made); n > 0 && roll(3) == 0 {
				s.Made = slices.Delete(s.Made, n-1, n)
			}
			s.Valid = append(s.Valid, roll(2*len(c.Chans)))
		}
		if roll(2) == 0 {
			s.Valid = append(s.Valid, s.Made...)
		}
		r := api.Request{Op: roll(11), Port: roll(2*len(c.Chans)+2) - 1, Addr: uint64(roll(80)), Data: list(9, []int{0, 1, 1, 1, 2, roll(18)}[roll(6)])}
		own := uint32(roll(1<<20)) << 12
		if refusal := sign.Refused(c, s, r); refusal != ok {
			answered(t, c, s, own, r, code(refusal))
			times["refused"]++
			continue
		}
		switch {
		case r.Op == create || r.Op == normal:
			answered(t, c, s, own, r, code(ok))
			times["at once"]++
		case r.Op == status && c.Chans[r.Port/2].Kind == sampling:
			valid := slices.Contains(s.Valid, r.Port)
			answered(t, c, s, own, r, api.Answer{Code: ok, Valid: valid})
			if valid {
				times["valid"]++
			} else {
				times["not valid"]++
			}
		default:
			begin(t, c, s, own, r)
			times[sign.Name(r.Op)]++
		}
	}
	for _, what := range []string{"refused", "at once", "valid", "not valid", "write", "read", "send", "receive", "status", "peek", "poke"} {
		if times[what] < 20 {
			t.Error(what, times)
		}
	}
}

// P13.2: writes and reads, step by step, through buffers of both pairs; neither rings, nor has an own number that grows.
func TestWritesAndReads(t *testing.T) {
	c := short()
	writer, reader := working(c, 0), working(c, 1)
	m, b := blank(t, shortSize), bells(t, shortBells, 3)
	does(t, begin(t, c, reader, 7, api.Request{Op: read, Port: 1}), m, b, -1, []due{
		loads(1, nothing, 7), {2, 24, 0, nothing, 7}, loads(3, nothing, 7), loads(4, unfound(1), 7),
	})
	does(t, begin(t, c, writer, top, api.Request{Op: write, Port: 0, Data: []uint32{71, 72}}), m, b, -1, []due{
		loads(10, nothing, top), loads(11, nothing, top), {12, 20, 2, buffer(4), top}, {13, 21, 13, stamped, top}, {14, 22, 71, nothing, top}, {15, 23, 72, nothing, top}, {16, 7, 1, nothing, top}, {17, 5, 1, both, top},
	})
	does(t, begin(t, c, writer, 0, api.Request{Op: write, Port: 0, Data: []uint32{81}}), m, b, -1, []due{
		loads(20, nothing, 0), loads(21, nothing, 0), {22, 16, 1, buffer(3), 0}, {23, 17, 23, stamped, 0}, {24, 18, 81, nothing, 0}, {25, 7, 0, marked, 0}, {26, 5, 1, ended, 0},
	})
	does(t, begin(t, c, reader, 0, api.Request{Op: read, Port: 1}), m, b, -1, []due{
		loads(22, nothing, 0), {23, 24, 1, nothing, 0}, loads(24, nothing, 0), loads(25, buffer(3), 0), loads(26, nothing, 0), loads(26, found(true, 81), 0),
	})
	does(t, begin(t, c, writer, 1, api.Request{Op: write, Port: 0, Data: []uint32{91, 92}}), m, b, -1, []due{
		loads(30, nothing, 1), loads(30, nothing, 1), {30, 12, 2, buffer(2), 1}, {31, 13, 31, stamped, 1}, {31, 14, 91, nothing, 1}, {31, 15, 92, nothing, 1}, {31, 6, 1, nothing, 1}, {31, 5, 0, both, 1},
	})
	does(t, begin(t, c, reader, 9, api.Request{Op: read, Port: 1}), m, b, -1, []due{
		loads(0, nothing, 9), {lastTick, 24, 0, nothing, 9}, loads(33, nothing, 9), loads(33, buffer(2), 9), loads(33, nothing, 9), loads(lastTick, nothing, 9), loads(34, found(true, 91, 92), 9),
	})
	does(t, begin(t, c, reader, 9, api.Request{Op: read, Port: 1}), m, b, -1, []due{
		loads(0, nothing, 9), {0, 24, 0, nothing, 9}, loads(0, nothing, 9), loads(0, buffer(2), 9), loads(0, nothing, 9), loads(0, nothing, 9), loads(35, found(false, 91, 92), 9),
	})
	if got := pending(b); !slices.Equal(got, []int{3}) {
		t.Error(got)
	}
}

// P13.2: sends, receives and counts at both sides, step by step: of an empty queue, of one that fills, and of a full one.
func TestSendsAndReceives(t *testing.T) {
	c := short()
	sender, receiver := working(c, 0), working(c, 1)
	m, b := blank(t, shortSize), bells(t, shortBells, 0, 2)
	receives := func(own uint32) *Task { return begin(t, c, receiver, own, api.Request{Op: receive, Port: 3}) }
	sends := func(own uint32, data ...uint32) *Task {
		return begin(t, c, sender, own, api.Request{Op: send, Port: 2, Data: data})
	}
	count := func(sent, gone uint32, n int) {
		t.Helper()
		does(t, begin(t, c, sender, sent, api.Request{Op: status, Port: 2}), m, b, -1, []due{loads(5, counts(n), sent)})
		does(t, begin(t, c, receiver, gone, api.Request{Op: status, Port: 3}), m, b, -1, []due{loads(5, counts(n), gone)})
	}
	count(0, 0, 0)
	does(t, receives(0), m, b, -1, []due{loads(1, refused, 0)})
	does(t, sends(0, 71), m, b, 3, []due{
		loads(1, nothing, 0), {2, 26, 1, nothing, 0}, {3, 27, 71, nothing, 0}, {4, 25, 1, marked, 1}, loads(5, rung, 1),
	})
	count(1, 0, 1)
	does(t, sends(1, 81, 82, 83), m, b, 3, []due{
		loads(6, nothing, 1), {6, 30, 3, nothing, 1}, {6, 31, 81, nothing, 1}, {6, 32, 82, nothing, 1}, {6, 33, 83, nothing, 1}, {6, 25, 2, marked, 2}, loads(6, rung, 2),
	})
	count(2, 0, 2)
	if got := b.Take(0, 1, 2, 3); !slices.Equal(got, []int{0, 2, 3}) {
		t.Error(got)
	}
	does(t, sends(2, 91, 92), m, b, 3, []due{loads(7, refused, 2)})
	does(t, receives(0), m, b, -1, []due{
		loads(8, nothing, 0), loads(8, nothing, 0), loads(8, nothing, 0), {9, 34, 1, taken(71), 1},
	})
	count(2, 1, 1)
	does(t, sends(2, 91, 92), m, b, 3, []due{
		loads(10, nothing, 2), {10, 26, 2, nothing, 2}, {11, 27, 91, nothing, 2}, {11, 28, 92, nothing, 2}, {12, 25, 3, marked, 3}, loads(12, rung, 3),
	})
	does(t, receives(1), m, b, -1, []due{
		loads(13, nothing, 1), loads(13, nothing, 1), loads(13, nothing, 1), loads(13, nothing, 1), loads(13, nothing, 1), {13, 34, 2, taken(81, 82, 83), 2},
	})
	does(t, receives(2), m, b, -1, []due{
		loads(14, nothing, 2), loads(14, nothing, 2), loads(14, nothing, 2), loads(14, nothing, 2), {14, 34, 3, taken(91, 92), 3},
	})
	does(t, receives(3), m, b, -1, []due{loads(15, refused, 3)})
	count(3, 3, 0)
	if got := pending(b); !slices.Equal(got, []int{3}) {
		t.Error(got)
	}
}

// P13.2: own numbers that go round, in a queue whose numbers begin with the last one there is, and the one ahead of it.
func TestNumbersGoRound(t *testing.T) {
	c := short()
	sender, receiver := working(c, 0), working(c, 1)
	for _, boot := range []uint32{top, top - 1} {
		c.Chans[1].Boot = boot
		next := boot + 1
		cell := 26 + 4*int(boot%2)
		m, b := blank(t, shortSize), bells(t, shortBells)
		m.Store(25, boot)
		m.Store(34, boot)
		does(t, begin(t, c, receiver, boot, api.Request{Op: receive, Port: 3}), m, b, -1, []due{loads(0, refused, boot)})
		does(t, begin(t, c, sender, boot, api.Request{Op: send, Port: 2, Data: []uint32{61}}), m, b, 3, []due{
			loads(0, nothing, boot), {0, cell, 1, nothing, boot}, {0, cell + 1, 61, nothing, boot}, {0, 25, next, marked, next}, loads(0, rung, next),
		})
		does(t, begin(t, c, sender, next, api.Request{Op: status, Port: 2}), m, b, -1, []due{loads(0, counts(1), next)})
		does(t, begin(t, c, receiver, boot, api.Request{Op: status, Port: 3}), m, b, -1, []due{loads(0, counts(1), boot)})
		m.Store(25, boot+2)
		does(t, begin(t, c, sender, boot+2, api.Request{Op: send, Port: 2, Data: []uint32{61}}), m, b, -1, []due{loads(0, refused, boot+2)})
		does(t, begin(t, c, receiver, boot, api.Request{Op: status, Port: 3}), m, b, -1, []due{loads(0, counts(2), boot)})
		does(t, begin(t, c, receiver, boot, api.Request{Op: receive, Port: 3}), m, b, -1, []due{
			loads(0, nothing, boot), loads(0, nothing, boot), loads(0, nothing, boot), {0, 34, next, taken(61), next},
		})
	}
}

// P13.2: a peek and a poke at each private word of each partition, the first and the last among them, in a memory of other words.
func TestPeeksAndPokes(t *testing.T) {
	for _, c := range []api.Config{short(), mixed(), config([]int{64, 1, 64, 0, 2, 64})} {
		size := layout.Size(c)
		m, b := held(t, list(1000, size)), bells(t, 2*len(c.Chans))
		at := 0
		for p, part := range c.Parts {
			s := api.Standing{Part: p, Normal: p%2 == 0}
			for i := range part.Private {
				addr, first := uint64(at+i), uint32(1000+at+i)
				own := []uint32{0, 5, top}[i%3]
				does(t, begin(t, c, s, own, api.Request{Op: peek, Addr: addr}), m, b, -1, []due{loads(0, taken(first), own)})
				does(t, begin(t, c, s, own, api.Request{Op: poke, Addr: addr, Data: []uint32{first * 7}}), m, b, -1, []due{{lastTick, at + i, first * 7, both, own}})
				does(t, begin(t, c, s, own, api.Request{Op: peek, Port: 1, Addr: addr, Data: []uint32{5, 6}}), m, b, -1, []due{loads(lastTick, taken(first*7), own)})
				does(t, begin(t, c, s, own, api.Request{Op: poke, Port: -1, Addr: addr, Data: []uint32{0}}), m, b, -1, []due{{0, at + i, 0, both, own}})
				does(t, begin(t, c, s, own, api.Request{Op: peek, Addr: addr}), m, b, -1, []due{loads(0, taken(0), own)})
				does(t, begin(t, c, s, own, api.Request{Op: poke, Addr: addr, Data: []uint32{top}}), m, b, -1, []due{{0, at + i, top, both, own}})
			}
			for _, addr := range []uint64{uint64(at) - 1, uint64(at + part.Private)} {
				answered(t, c, s, 0, api.Request{Op: peek, Addr: addr}, code(accessFault))
				answered(t, c, s, 0, api.Request{Op: poke, Addr: addr, Data: []uint32{1}}, code(accessFault))
			}
			at += part.Private
		}
		for i, w := range m.Words() {
			if i < at && w != top || i >= at && w != uint32(1000+i) {
				t.Error(i, w)
			}
		}
	}
}

// P13.2: a peek loads the word as it is when its step is done, and a step of a peek or a poke that was answered neither loads nor stores again.
func TestWhenPeeksAndPokesHappen(t *testing.T) {
	c := short()
	m, b := blank(t, shortSize), bells(t, shortBells)
	x := begin(t, c, working(c, 1), 0, api.Request{Op: peek, Addr: 4})
	m.Store(4, 88)
	does(t, x, m, b, -1, []due{loads(0, taken(88), 0)})
	m.Store(4, 99)
	if got := x.Step(m, b, 0); !same(got, nothing) || x.Steps() != 2 {
		t.Error(got, x.Steps())
	}
	x = begin(t, c, working(c, 1), 0, api.Request{Op: poke, Addr: 4, Data: []uint32{55}})
	if w, _ := m.Load(4); w != 99 {
		t.Error("a poke stores as it begins:", w)
	}
	does(t, x, m, b, -1, []due{{0, 4, 55, both, 0}})
	m.Store(4, 66)
	if got := x.Step(m, b, 0); !same(got, nothing) || x.Steps() != 2 {
		t.Error(got, x.Steps())
	}
	if w, _ := m.Load(4); w != 66 {
		t.Error("a poke that was answered stores:", w)
	}
}

// The chapter's examples.
func TestExamples(t *testing.T) {
	c := short()
	answered(t, c, api.Standing{}, 0, api.Request{Op: create}, code(ok))
	x := begin(t, c, api.Standing{}, 0, api.Request{Op: peek, Addr: 1})
	if got := x.Step(blank(t, shortSize), bells(t, shortBells), 0); !got.Done || x.Steps() != 2 {
		t.Error(got, x.Steps())
	}
}

// ends does all steps of a call at a tick; it tells the last one, and how many there were.
func ends(t *testing.T, x *Task, m *mem.Mem, b *bell.Set, now int) (api.Did, int) {
	t.Helper()
	for range 100 {
		if did := x.Step(m, b, now); did.Done {
			return did, x.Steps()
		}
	}
	t.Fatal("isn't answered")
	return api.Did{}, 0
}

// The document's examples of the whole that hang on this layer: 1 to 3, 5 to 7.
func TestExamplesOfTheWhole(t *testing.T) {
	c := config([]int{2, 1}, queue(0, 1, 1, 1, 0))
	m, b := blank(t, layout.Size(c)), bells(t, 2)
	does := func(p int, own uint32, r api.Request, now int, want api.Did, steps int) {
		t.Helper()
		if got, n := ends(t, begin(t, c, working(c, p), own, r), m, b, now); !same(got, want) || n != steps {
			t.Errorf("%+v in %d steps instead of %+v in %d", got, n, want, steps)
		}
	}
	does(1, 0, api.Request{Op: receive, Port: 1}, 0, refused, 2)
	does(0, 0, api.Request{Op: send, Port: 0, Data: []uint32{7}}, 0, rung, 6)
	does(0, 1, api.Request{Op: send, Port: 0, Data: []uint32{7}}, 0, refused, 2)
	does(0, 1, api.Request{Op: status, Port: 0}, 0, counts(1), 2)
	if got := b.Take(0, 1); !slices.Equal(got, []int{1}) {
		t.Error(got)
	}
	does(1, 0, api.Request{Op: receive, Port: 1}, 0, taken(7), 5)
	does(0, 0, api.Request{Op: poke, Addr: 1, Data: []uint32{5}}, 0, both, 2)
	does(0, 0, api.Request{Op: peek, Addr: 1}, 0, taken(5), 2)
	answered(t, c, working(c, 0), 0, api.Request{Op: peek, Addr: 2}, code(accessFault))
	answered(t, c, api.Standing{Made: []int{0}}, 0, api.Request{Op: send, Data: []uint32{7}}, code(invalidMode))
	answered(t, c, api.Standing{}, 0, api.Request{Op: send, Data: []uint32{7}}, code(invalidParam))
	answered(t, c, api.Standing{}, 0, api.Request{Op: create, Port: 1}, code(invalidConfig))
	answered(t, c, api.Standing{Made: []int{0}}, 0, api.Request{Op: create, Port: 0}, code(noAction))

	c = config([]int{2, 1}, sample(0, 1, 2, 3))
	m = blank(t, layout.Size(c))
	does(1, 0, api.Request{Op: read, Port: 1}, 0, unfound(1), 5)
	does(0, 0, api.Request{Op: write, Port: 0, Data: []uint32{8, 9}}, 5, both, 9)
	does(1, 0, api.Request{Op: read, Port: 1}, 8, found(true, 8, 9), 8)
	does(1, 0, api.Request{Op: read, Port: 1}, 9, found(false, 8, 9), 8)
}

// spot tells where a channel's words stand, by the chapter of the layout: from, of the source span, and dest, the only word of the other one.
type spot struct{ from, dest int }

// spotOf counts the words ahead of channel k.
func spotOf(c api.Config, k int) spot {
	at := 0
	for _, p := range c.Parts {
		at += p.Private
	}
	for i, ch := range c.Chans {
		size := 1 + ch.Depth*(1+ch.Words)
		if ch.Kind == sampling {
			size = 3 + 4*(2+ch.Words)
		}
		if i == k {
			return spot{at, at + size}
		}
		at += size + 1
	}
	return spot{}
}

// twin is a call that has begun, by the chapters' words, over words and bells of its own: step by step, by the step's number.
type twin struct {
	spot
	c           api.Config
	r           api.Request
	ch          api.Chan // the port's, where there is one
	handed, own uint32
	n           int // steps that were done
	pair, index int
	length      int
	stamp       uint32
	data        []uint32
	early       bool // it was marked ahead of its last step
	ended       bool
}

func twinOf(c api.Config, own uint32, r api.Request) *twin {
	x := &twin{c: c, r: r, handed: own, own: own, n: 1}
	if r.Op != peek && r.Op != poke {
		x.spot, x.ch = spotOf(c, r.Port/2), c.Chans[r.Port/2]
	}
	return x
}

func (x *twin) step(words []uint32, bells map[int]bool, now int) (did api.Did) {
	if x.ended {
		return did
	}
	x.n++
	switch x.r.Op {
	case write:
		did = x.write(words, now)
	case read:
		did = x.read(words, now)
	case send:
		did = x.send(words, bells)
	case receive:
		did = x.receive(words)
	case status:
		if x.r.Port%2 == 0 {
			did = counts(less(x.own, words[x.dest]))
		} else {
			did = counts(less(words[x.from], x.own))
		}
	case peek:
		did = taken(words[x.r.Addr])
	case poke:
		words[x.r.Addr], did = x.r.Data[0], both
	}
	x.ended = did.Done
	return did
}

// less is a less b modulo 2^32.
func less(a, b uint32) int { return int((int64(a) - int64(b) + 1<<32) % (1 << 32)) }

func (x *twin) buffer() int { return x.from + 3 + (2*x.pair+x.index)*(2+x.ch.Words) }

func (x *twin) cell() int {
	return x.from + 1 + int(uint64(x.handed)%uint64(x.ch.Depth))*(1+x.ch.Words)
}

// cut is how many words a length in the memory tells.
func (x *twin) cut(length uint32) int {
	if length > uint32(x.ch.Words) {
		return x.ch.Words
	}
	return int(length)
}

func (x *twin) write(words []uint32, now int) (did api.Did) {
	size := len(x.r.Data)
	switch {
	case x.n == 2:
		if words[x.dest]%2 == 0 {
			x.pair = 1
		}
	case x.n == 3:
		if words[x.from+1+x.pair]%2 == 0 {
			x.index = 1
		}
	case x.n == 4:
		words[x.buffer()], did.Buffer = uint32(size), 1+2*x.pair+x.index
	case x.n == 5:
		words[x.buffer()+1], did.Stamped = uint32(now), true
	case x.n < 6+size:
		words[x.buffer()+2+x.n-6] = x.r.Data[x.n-6]
	case x.n == 6+size:
		words[x.from+1+x.pair] = uint32(x.index)
		x.early = int(words[x.from]%2) == x.pair
		did.Mark = x.early
	default:
		words[x.from] = uint32(x.pair)
		did.Mark, did.Done = !x.early, true
	}
	return did
}

func (x *twin) read(words []uint32, now int) (did api.Did) {
	switch x.n {
	case 2:
		x.pair = int(words[x.from] & 1)
	case 3:
		words[x.dest] = uint32(x.pair)
	case 4:
		x.index = int(words[x.from+1+x.pair] & 1)
	case 5:
		did.Buffer = 1 + 2*x.pair + x.index
		x.length = x.cut(words[x.buffer()])
		if x.length == 0 {
			did.Done, did.Ans.Code = true, noAction
		}
	case 6:
		x.stamp = words[x.buffer()+1]
	default:
		x.data = append(x.data, words[x.buffer()+2+len(x.data)])
		if len(x.data) == x.length {
			did = found(int64(now)-int64(x.stamp) <= int64(x.ch.Period), x.data...)
		}
	}
	return did
}

func (x *twin) send(words []uint32, bells map[int]bool) (did api.Did) {
	size := len(x.r.Data)
	switch {
	case x.n == 2:
		if less(x.handed, words[x.dest]) >= x.ch.Depth {
			return refused
		}
	case x.n == 3:
		words[x.cell()] = uint32(size)
	case x.n < 4+size:
		words[x.cell()+1+x.n-4] = x.r.Data[x.n-4]
	case x.n == 4+size:
		x.own = x.handed + 1
		words[x.from], did.Mark = x.own, true
	default:
		bells[x.r.Port+1] = true
		did = rung
	}
	return did
}

func (x *twin) receive(words []uint32) (did api.Did) {
	switch {
	case x.n == 2:
		if words[x.from] == x.handed {
			return refused
		}
	case x.n == 3:
		x.length = x.cut(words[x.cell()])
	case x.n < 4+x.length:
		x.data = append(x.data, words[x.cell()+1+x.n-4])
	default:
		x.own = x.handed + 1
		words[x.dest] = x.own
		did = taken(x.data...)
	}
	return did
}

// pairing is a call that has begun, and its twin.
type pairing struct {
	task *Task
	twin *twin
}

func pair(t *testing.T, c api.Config, s api.Standing, own uint32, r api.Request) pairing {
	t.Helper()
	return pairing{begin(t, c, s, own, r), twinOf(c, own, r)}
}

// step does the next step of both, and tells a fault unless both do the same with the memory and the bells, and tell the same, of their numbers of steps and own numbers too; or if it touches more than a word or a bell.
func (p pairing) step(t *testing.T, m *mem.Mem, b *bell.Set, now int) api.Did {
	t.Helper()
	before, words, bells := m.Words(), m.Words(), map[int]bool{}
	for i := range b.All() {
		bells[i] = true
	}
	rung := len(bells)
	p.tells(t)
	due, got := p.twin.step(words, bells, now), p.task.Step(m, b, now)
	if !same(got, due) {
		t.Fatalf("%+v: step %d at %d tells %+v instead of %+v", p.twin.r, p.twin.n, now, got, due)
	}
	if !slices.Equal(m.Words(), words) {
		t.Fatalf("%+v: step %d at %d: %v instead of %v", p.twin.r, p.twin.n, now, m.Words(), words)
	}
	for i := range 2 * api.MaxChans {
		if b.Has(i) != bells[i] {
			t.Fatalf("%+v: step %d: bell %d: %v instead of %v", p.twin.r, p.twin.n, i, b.Has(i), bells[i])
		}
	}
	p.tells(t)
	touched := len(pending(b)) - rung
	for at, w := range m.Words() {
		if w != before[at] {
			touched++
		}
	}
	if touched < 0 || touched > 1 {
		t.Fatalf("%+v: step %d touches %d words and bells", p.twin.r, p.twin.n, touched)
	}
	return got
}

// tells tells a fault unless both have done as many steps, and have one own number.
func (p pairing) tells(t *testing.T) {
	t.Helper()
	if got := p.task.Steps(); got != p.twin.n {
		t.Fatalf("%+v: %d steps instead of %d", p.twin.r, got, p.twin.n)
	}
	if got := p.task.Own(); got != p.twin.own {
		t.Fatalf("%+v: step %d: own number %d instead of %d", p.twin.r, p.twin.n, got, p.twin.own)
	}
}

// through does all steps of both at one tick, and some behind them; it counts the steps up to the answer.
func (p pairing) through(t *testing.T, m *mem.Mem, b *bell.Set, now int) (api.Did, int) {
	t.Helper()
	for range 100 {
		if did := p.step(t, m, b, now); did.Done {
			n := p.task.Steps()
			for range 3 {
				p.step(t, m, b, now)
			}
			return did, n
		}
	}
	t.Fatal("isn't answered")
	return api.Did{}, 0
}

// dice rolls numbers that are the same at each run.
func dice() func(n int) int {
	at := uint32(1)
	return func(n int) int {
		at = at*1664525 + 1013904223
		return int(at>>8) % n
	}
}

var depths = []int{1, 2, 4, 8}

// Numbers at which queues begin, and own numbers: some of these go round within a few messages.
var numbers = []uint32{0, 1, 2, 5, 1<<31 - 1, 1 << 31, top - 8, top - 7, top - 3, top - 2, top - 1, top}

// rolledConfig is any configuration; one of its channels, which is told, is of that kind.
func rolledConfig(roll func(n int) int, kind int) (api.Config, int) {
	private := make([]int, 2+roll(5))
	for p := range private {
		private[p] = []int{0, 1, 3, 64}[roll(4)]
	}
	c := config(private)
	k := roll(8)
	for n := range k + 1 + roll(8-k) {
		from := roll(len(private))
		to := (from + 1 + roll(len(private)-1)) % len(private)
		words := []int{1, 2, 1 + roll(maxWords), maxWords}[roll(4)]
		if n == k && kind == queuing || n != k && roll(2) == 0 {
			c.Chans = append(c.Chans, queue(from, to, words, depths[roll(4)], numbers[roll(len(numbers))]))
		} else {
			c.Chans = append(c.Chans, sample(from, to, words, []int{0, roll(99), 1 << 20}[roll(3)]))
		}
	}
	return c, k
}

// rolledRequest is any request that isn't refused, nor answered as it begins, of a partition that can make one; of a configuration without private words it is of a port.
func rolledRequest(roll func(n int) int) (api.Config, api.Standing, api.Request) {
	op := write + roll(7)
	kind := queuing
	if op == write || op == read {
		kind = sampling
	}
	c, k := rolledConfig(roll, kind)
	r := api.Request{Op: op, Port: 2 * k}
	switch op {
	case write, send:
		r.Data = list(uint32(roll(1<<20))<<12, 1+roll(c.Chans[k].Words))
	case read, receive:
		r.Port++
	case status:
		r.Port += roll(2)
	case peek, poke:
		p := roll(len(c.Parts))
		c.Parts[p].Private = 1 + roll(64)
		at := 0
		for _, x := range c.Parts[:p] {
			at += x.Private
		}
		r.Port, r.Addr, r.Data = roll(20)-1, uint64(at+roll(c.Parts[p].Private)), list(uint32(roll(1<<20))<<12, 1)
		return c, working(c, p), r
	}
	p := c.Chans[k].From
	if r.Port%2 == 1 {
		p = c.Chans[k].To
	}
	return c, working(c, p), r
}

// P13.2, P13.3: each step loads or stores its own word, as it is then, and touches no other one: ahead of each all words of the memory are others, and so are the memory and the bells. Whatever these are, each call is answered within w + 7 steps.
func TestEachStepTouchesItsWord(t *testing.T) {
	roll := dice()
	var own uint32
	word := func() uint32 {
		return []uint32{0, uint32(roll(20)), own - uint32(roll(10)), own + uint32(roll(10)), uint32(roll(1<<24)) << 8 >> roll(9), top}[roll(6)]
	}
	times, most := map[int]int{}, map[int]int{}
	for range 5000 {
		c, s, r := rolledRequest(roll)
		if !defect.Accepts(c) {
			t.Fatal(slices.Collect(defect.All(c)))
		}
		own = []uint32{uint32(roll(1<<20)) << 12, numbers[roll(len(numbers))]}[roll(2)]
		p := pair(t, c, s, own, r)
		words := make([]uint32, layout.Size(c))
		for ended := false; !ended; {
			for at := range words {
				words[at] = word()
			}
			var before []int
			for i := range 2 * len(c.Chans) {
				if roll(2) == 0 {
					before = append(before, i)
				}
			}
			ended = p.step(t, held(t, words), bells(t, 2*len(c.Chans), before...), []int{0, roll(200), lastTick}[roll(3)]).Done
			if n := p.task.Steps(); n > p.twin.ch.Words+7 {
				t.Fatalf("%+v: %d steps", r, n)
			}
		}
		n := p.task.Steps()
		for range 2 {
			p.step(t, held(t, words), bells(t, 2*len(c.Chans)), roll(9))
		}
		times[r.Op]++
		most[r.Op] = max(most[r.Op], n)
	}
	for op, want := range map[int]int{write: 23, read: 22, send: 21, receive: 20, status: 2, peek: 2, poke: 2} {
		if times[op] < 300 || most[op] != want {
			t.Error(op, times[op], most[op], want)
		}
	}
}

// P13.2, P13.3: of each length, up to the channel's words, of each channel's words, of each Depth: how many steps there are, and what is read, or received; the most there are is w + 7.
func TestLengths(t *testing.T) {
	for words := 1; words <= maxWords; words++ {
		c := config([]int{1, 1}, sample(1, 0, words, 5), queue(1, 0, words, depths[words%4], top-3))
		from, to := working(c, 1), working(c, 0)
		m, b := blank(t, layout.Size(c)), bells(t, 4)
		own := uint32(top - 3)
		q := spotOf(c, 1)
		m.Store(uint64(q.from), own)
		m.Store(uint64(q.dest), own)
		if got, n := pair(t, c, to, 0, api.Request{Op: read, Port: 1}).through(t, m, b, 3); n != 5 || !same(got, unfound(1)) {
			t.Error(words, n, got)
		}
		for size := 1; size <= words; size++ {
			data := list(uint32(100*size), size)
			if _, n := pair(t, c, from, 0, api.Request{Op: write, Port: 0, Data: data}).through(t, m, b, 3); n != size+7 {
				t.Error(words, size, n)
			}
			if got, n := pair(t, c, to, 0, api.Request{Op: read, Port: 1}).through(t, m, b, 3); n != size+6 || !same(got, found(true, data...)) {
				t.Error(words, size, n, got)
			}
			if got, n := pair(t, c, to, own, api.Request{Op: receive, Port: 3}).through(t, m, b, 3); n != 2 || !same(got, refused) {
				t.Error(words, size, n, got)
			}
			if got, n := pair(t, c, from, own, api.Request{Op: send, Port: 2, Data: data}).through(t, m, b, 3); n != size+5 || !same(got, rung) {
				t.Error(words, size, n, got)
			}
			if got, n := pair(t, c, from, own+1, api.Request{Op: status, Port: 2}).through(t, m, b, 3); n != 2 || !same(got, counts(1)) {
				t.Error(words, size, n, got)
			}
			if got, n := pair(t, c, to, own, api.Request{Op: receive, Port: 3}).through(t, m, b, 3); n != size+4 || !same(got, taken(data...)) {
				t.Error(words, size, n, got)
			}
			own++
		}
	}
}

// P13.2: the number of steps and the own number, ahead of the first step, between steps, at the answer and behind it: the own number is one more just from the step on that stores tail, or head.
func TestStepsAndOwn(t *testing.T) {
	c := short()
	from, to := working(c, 0), working(c, 1)
	const never = 99
	for _, own := range numbers {
		for _, x := range []struct {
			s          api.Standing
			own        uint32
			r          api.Request
			tail, head uint32
			steps      int // up to the answer
			grows      int // the number of steps from which on it is one more
		}{
			{from, own, api.Request{Op: send, Port: 2, Data: list(1, 1)}, own, own, 6, 5},
			{from, own, api.Request{Op: send, Port: 2, Data: list(1, 3)}, own, own - 1, 8, 7},
			{from, own, api.Request{Op: send, Port: 2, Data: list(1, 3)}, own, own - 2, 2, never},
			{to, own, api.Request{Op: receive, Port: 3}, own + 1, own, 6, 6},
			{to, own, api.Request{Op: receive, Port: 3}, own, own, 2, never},
			{from, own, api.Request{Op: status, Port: 2}, own, own - 2, 2, never},
			{to, own, api.Request{Op: status, Port: 3}, own + 2, own, 2, never},
			{from, own, api.Request{Op: write, Port: 0, Data: list(1, 1)}, own, own, 8, never},
			{to, own, api.Request{Op: read, Port: 1}, own, own, 8, never},
			{from, own, api.Request{Op: peek, Addr: 1}, own, own, 2, never},
			{to, own, api.Request{Op: poke, Addr: 4, Data: list(1, 1)}, own, own, 2, never},
		} {
			words := slices.Repeat([]uint32{2}, shortSize)
			words[25], words[34] = x.tail, x.head
			m, b := held(t, words), bells(t, shortBells)
			call := begin(t, c, x.s, x.own, x.r)
			for n := 1; n < 14; n++ {
				want := x.own
				if n >= x.grows {
					want++
				}
				for range 2 { // asked twice, since asking changes nothing
					if got := call.Own(); got != want {
						t.Errorf("%+v behind %d steps: own number %d instead of %d", x.r, n, got, want)
					}
					if got, want := call.Steps(), min(n, x.steps); got != want {
						t.Errorf("%+v behind %d steps: %d instead of %d", x.r, n, got, want)
					}
				}
				if got, want := call.Step(m, b, n).Done, n+1 == x.steps; got != want {
					t.Errorf("%+v: step %d: %v", x.r, n+1, got)
				}
			}
		}
	}
}

// P13.2: ticks from 0 up to 2^31 - 1: the stamp that a write stores, and what a read finds valid by it.
func TestTicks(t *testing.T) {
	for _, x := range []struct {
		period, wrote, reads int
		valid                bool
	}{
		{0, 0, 0, true}, {0, 0, 1, false}, {3, 0, 3, true}, {3, 0, 4, false},
		{0, lastTick, lastTick, true}, {3, lastTick - 3, lastTick, true}, {3, lastTick - 4, lastTick, false},
		{1 << 20, lastTick - 1<<20, lastTick, true}, {1 << 20, lastTick - 1<<20 - 1, lastTick, false}, {1 << 20, 0, lastTick, false},
	} {
		c := config([]int{1, 0}, sample(0, 1, 1, x.period))
		m, b := blank(t, layout.Size(c)), bells(t, 2)
		ends(t, begin(t, c, working(c, 0), 0, api.Request{Op: write, Port: 0, Data: list(50, 1)}), m, b, x.wrote)
		// 1 private, latest, two slots, three buffers ahead of that of pair 1, index 1, and the length.
		if w, _ := m.Load(1 + 3 + 3*3 + 1); w != uint32(x.wrote) {
			t.Error(x, w)
		}
		if got, n := ends(t, begin(t, c, working(c, 1), 0, api.Request{Op: read, Port: 1}), m, b, x.reads); n != 7 || !same(got, found(x.valid, 50)) {
			t.Error(x, n, got)
		}
	}
}

// P13.2: a step of one that was answered does nothing, whatever the memory and the tick are then.
func TestBehindTheAnswer(t *testing.T) {
	roll := dice()
	for range 700 {
		c, s, r := rolledRequest(roll)
		own := numbers[roll(len(numbers))]
		p := pair(t, c, s, own, r)
		size, n := layout.Size(c), 2*len(c.Chans)
		p.through(t, held(t, slices.Repeat([]uint32{own + uint32(roll(3)) - 1}, size)), bells(t, n), roll(50))
		for _, w := range []uint32{0, 1, 2, own - 1, own, own + 1, own + 2, top} {
			p.step(t, held(t, slices.Repeat([]uint32{w}, size)), bells(t, n, roll(n)), roll(50))
		}
	}
}

// P13.2, P13.3: a call on each channel of a configuration that has several, of both kinds, in a memory of other words: it changes only words that its partition may change, rings no other bell, and finds what was written, or sent, there.
func TestChannels(t *testing.T) {
	c := mixed()
	if !defect.Accepts(c) {
		t.Fatal(slices.Collect(defect.All(c)))
	}
	m, b := held(t, list(1<<20, layout.Size(c))), bells(t, 2*len(c.Chans))
	for k, ch := range c.Chans {
		if x := spotOf(c, k); ch.Kind == queuing {
			m.Store(uint64(x.from), ch.Boot)
			m.Store(uint64(x.dest), ch.Boot)
		}
	}
	do := func(part int, own uint32, r api.Request) api.Did {
		t.Helper()
		before := m.Words()
		did, _ := pair(t, c, working(c, part), own, r).through(t, m, b, 40)
		for at, w := range m.Words() {
			if w != before[at] && !layout.May(c, part, at) {
				t.Error(r, at)
			}
		}
		return did
	}
	for round := range 20 {
		for k, ch := range c.Chans {
			own := ch.Boot + uint32(round)
			data := list(uint32(1000*round+100*k), 1+round%ch.Words)
			put, get, want, rings := write, read, found(true, data...), []int(nil)
			if ch.Kind == queuing {
				put, get, want, rings = send, receive, taken(data...), []int{2*k + 1}
			}
			do(ch.From, own, api.Request{Op: put, Port: 2 * k, Data: data})
			if got := b.Take(0, 1, 2, 3, 4, 5, 6, 7, 8, 9, 10, 11, 12, 13, 14, 15); !slices.Equal(got, rings) {
				t.Error(round, k, got)
			}
			if ch.Kind == queuing {
				for port, x := range map[int]struct {
					part int
					own  uint32
				}{2 * k: {ch.From, own + 1}, 2*k + 1: {ch.To, own}} {
					if got := do(x.part, x.own, api.Request{Op: status, Port: port}); !same(got, counts(1)) {
						t.Error(round, port, got)
					}
				}
			}
			if got := do(ch.To, own, api.Request{Op: get, Port: 2*k + 1}); !same(got, want) {
				t.Error(round, k, got)
			}
		}
	}
}

// P13.2, P13.3, R5: many calls at once, whose steps follow each other in any way: each does what it does by the memory and its own steps alone.
func TestManyAtOnce(t *testing.T) {
	roll := dice()
	for range 100 {
		c, _ := rolledConfig(roll, sampling+roll(2))
		m, b := held(t, slices.Repeat([]uint32{uint32(roll(3))}, layout.Size(c))), bells(t, 2*len(c.Chans))
		under := map[int]pairing{} // by port: of each the one that is under way
		answers := 0
		for range 400 {
			port := roll(2 * len(c.Chans))
			p, is := under[port]
			if !is {
				ch := c.Chans[port/2]
				r := api.Request{Op: read + 2*(ch.Kind-sampling), Port: port}
				part := ch.To
				if port%2 == 0 {
					r.Op, r.Data, part = r.Op-1, list(uint32(roll(1<<20)), 1+roll(ch.Words)), ch.From
				}
				if ch.Kind == queuing && roll(4) == 0 {
					r.Op, r.Data = status, nil
				}
				p = pair(t, c, working(c, part), uint32(roll(3)), r)
				under[port] = p
			}
			if p.step(t, m, b, roll(9)).Done {
				delete(under, port)
				answers++
			}
		}
		if answers == 0 {
			t.Error(answers)
		}
	}
}

// P13.3: a call whose other side stops for good within its steps, wherever that is, is answered within w + 7 steps.
func TestTheOtherSideStops(t *testing.T) {
	c := short()
	from, to := working(c, 0), working(c, 1)
	puts := map[int]api.Request{write: {Op: write, Port: 0, Data: list(50, 2)}, send: {Op: send, Port: 2, Data: list(50, 3)}}
	gets := map[int]api.Request{write: {Op: read, Port: 1}, send: {Op: receive, Port: 3}}
	for op, w := range map[int]int{write: 2, send: 3} {
		for stop := range 12 {
			m, b := blank(t, shortSize), bells(t, shortBells)
			stops := begin(t, c, from, 0, puts[op])
			for range stop {
				stops.Step(m, b, 0)
			}
			for range 3 {
				if _, n := ends(t, begin(t, c, to, 0, gets[op]), m, b, 0); n > w+7 {
					t.Error(op, stop, n)
				}
			}
			m = blank(t, shortSize)
			ends(t, begin(t, c, from, 0, puts[op]), m, b, 0)
			stops = begin(t, c, to, 0, gets[op])
			for range stop {
				stops.Step(m, b, 0)
			}
			for own := range uint32(4) {
				if _, n := ends(t, begin(t, c, from, own+1, puts[op]), m, b, 0); n > w+7 {
					t.Error(op, stop, n)
				}
			}
		}
	}
}

// whole is a list with its marked spare room.
func whole[T any](l []T) []T { return l[:len(l)+2] }

// R4: what is handed in isn't changed, spare room included.
func TestNothingHandedInIsChanged(t *testing.T) {
	roll := dice()
	roomy := func(c api.Config, s api.Standing, r api.Request) (api.Config, api.Standing, api.Request) {
		c.Parts, c.Chans = room(c.Parts, api.Part{Core: -7}), room(c.Chans, api.Chan{Kind: -7})
		for i := range c.Frames {
			c.Frames[i].Windows = room(c.Frames[i].Windows, api.Window{Part: -7})
		}
		s.Made, s.Valid, r.Data = room(s.Made, -7), room(s.Valid, -7), room(r.Data, 77)
		return c, s, r
	}
	all := func(c api.Config, s api.Standing, r api.Request) []any {
		return []any{
			whole(c.Parts), whole(c.Chans), whole(c.Frames[0].Windows), whole(c.Frames[1].Windows), c.Frames[0].Length, c.Frames[1].Length,
			s.Part, s.Normal, whole(s.Made), whole(s.Valid), r.Op, r.Port, r.Addr, whole(r.Data),
		}
	}
	for i := range 500 {
		c, s, r := rolledRequest(roll)
		switch s.Valid = []int{3, 0, 3, 1}; i % 5 {
		case 1:
			r.Op, s.Normal, s.Made = create, false, nil
		case 2:
			r.Op, s.Normal = normal, false
		case 3:
			r.Op = status
		}
		before := all(roomy(c, s, r))
		c, s, r = roomy(c, s, r)
		if x, _, is := Begin(c, s, 2, r); !is {
			m, b := held(t, slices.Repeat([]uint32{1}, layout.Size(c))), bells(t, 2*len(c.Chans))
			ends(t, x, m, b, 0)
			x.Step(m, b, 0)
		}
		if after := all(c, s, r); !reflect.DeepEqual(after, before) {
			t.Fatalf("%v instead of %v", after, before)
		}
	}
}

// R4: what the caller writes into what it handed in, behind the call, makes no difference: ahead of each step all of it is written over.
func TestNothingHandedInIsKept(t *testing.T) {
	roll := dice()
	for range 1500 {
		c, s, r := rolledRequest(roll)
		own := numbers[roll(len(numbers))]
		size, n := layout.Size(c), 2*len(c.Chans)
		other := c
		other.Parts, other.Chans = slices.Clone(c.Parts), slices.Clone(c.Chans)
		mine := r
		mine.Data = slices.Clone(r.Data)
		p := pairing{begin(t, other, s, own, mine), twinOf(c, own, r)}
		m, b := held(t, slices.Repeat([]uint32{own - 1 + uint32(roll(3))}, size)), bells(t, n)
		for done := false; !done; {
			for i := range mine.Data {
				mine.Data[i] = uint32(roll(99))
			}
			for i := range other.Chans {
				other.Chans[i] = api.Chan{Kind: roll(3), Words: roll(9), Depth: roll(9), Period: roll(9)}
			}
			for i := range other.Parts {
				other.Parts[i] = api.Part{Private: roll(9)}
			}
			for i := range s.Made {
				s.Made[i] = -1
			}
			done = p.step(t, m, b, 7).Done
		}
	}
}

// R4: what is answered is new memory: written over, spare room included, it changes neither the memory nor what other calls answer.
func TestAnswersAreNew(t *testing.T) {
	c := short()
	words := make([]uint32, shortSize)
	copy(words, []uint32{61, 62, 63})
	copy(words[8:], []uint32{2, 5, 71, 72}) // pair 0, index 0, to which noughts lead
	copy(words[25:], []uint32{1, 2, 81, 82})
	for _, x := range []struct {
		p    int
		r    api.Request
		want []uint32
	}{
		{0, api.Request{Op: peek, Addr: 1}, []uint32{62}},
		{1, api.Request{Op: peek, Addr: 2}, []uint32{63}},
		{1, api.Request{Op: read, Port: 1}, []uint32{71, 72}},
		{1, api.Request{Op: receive, Port: 3}, []uint32{81, 82}},
	} {
		m, b := held(t, words), bells(t, shortBells)
		var answers [][]uint32
		for range 3 {
			m.Store(34, 0)
			first, _ := ends(t, begin(t, c, working(c, x.p), 0, x.r), m, b, 5)
			if !slices.Equal(first.Ans.Data, x.want) {
				t.Error(x, first)
			}
			all := first.Ans.Data[:cap(first.Ans.Data)]
			before := m.Words()
			for i := range all {
				all[i] = 999
			}
			if !slices.Equal(m.Words(), before) {
				t.Error(x, m.Words())
			}
			answers = append(answers, all)
		}
		for i, a := range answers {
			a[0] = uint32(i)
		}
		for i, a := range answers {
			if a[0] != uint32(i) {
				t.Error("shared:", x, answers)
			}
		}
	}
}

// R5: two calls that begin alike, with memories alike, do alike.
func TestAlike(t *testing.T) {
	roll := dice()
	for range 500 {
		c, s, r := rolledRequest(roll)
		own := numbers[roll(len(numbers))]
		words := slices.Repeat([]uint32{own - 1 + uint32(roll(3))}, layout.Size(c))
		type view struct {
			did   api.Did
			words []uint32
			steps int
			own   uint32
		}
		var all [2][]view
		for i := range all {
			x, m, b := begin(t, c, s, own, r), held(t, words), bells(t, 2*len(c.Chans))
			for now := range 25 {
				did := x.Step(m, b, now)
				all[i] = append(all[i], view{did, m.Words(), x.Steps(), x.Own()})
			}
		}
		if !reflect.DeepEqual(all[0], all[1]) {
			t.Fatal(r)
		}
	}
}

// R1: whatever Begin is handed, it ends, and tells a call or an answer, not both.
func TestAnyArguments(t *testing.T) {
	far := []int{0, 1, 2, 3, 4, 5, 9, 10, 16, -1, -2, math.MinInt, math.MinInt32, math.MaxInt32, math.MaxInt, 1 << 32, 1<<32 + 1}
	addresses := []uint64{0, 1, 2, 4, 5, 34, 35, 1 << 16, 1 << 31, 1 << 32, 1<<32 + 1, 1 << 63, 1<<63 + 1, math.MaxUint64}
	roll := dice()
	calls := 0
	for range 30000 {
		c := short()
		if roll(4) == 0 {
			c = api.Config{Parts: make([]api.Part, roll(8)), Chans: make([]api.Chan, roll(10))}
			for k := range c.Chans {
				c.Chans[k] = api.Chan{Kind: roll(4), From: far[roll(len(far))], To: far[roll(len(far))], Words: far[roll(len(far))], Depth: far[roll(len(far))]}
			}
		}
		s := api.Standing{Part: []int{0, 1, far[roll(len(far))]}[roll(3)], Normal: roll(3) > 0}
		for range roll(6) {
			s.Made = append(s.Made, []int{roll(4), far[roll(len(far))]}[roll(2)])
			s.Valid = append(s.Valid, far[roll(len(far))])
		}
		r := api.Request{Op: []int{roll(11), far[roll(len(far))]}[roll(2)], Port: []int{roll(4), far[roll(len(far))]}[roll(2)], Addr: addresses[roll(len(addresses))], Data: list(1, roll(5))}
		refusal := sign.Refused(c, s, r)
		x, ans, is := Begin(c, s, uint32(roll(9)), r)
		if is == (x != nil) || ans.Code != refusal || !is && !reflect.DeepEqual(ans, api.Answer{}) {
			t.Fatal(c, s, r, x, ans, is)
		}
		if !is {
			calls++
			ends(t, x, blank(t, shortSize), bells(t, shortBells), 0)
		}
	}
	if calls < 100 {
		t.Error(calls)
	}
}
