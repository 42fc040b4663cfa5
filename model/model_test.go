package model

import (
	"math"
	"reflect"
	"slices"
	"testing"

	"porthole/api"
	"porthole/defect"
)

// The calls have the chapter's signatures.
var (
	_ func(api.Config) *Model                = New
	_ func(*Model, api.Call) api.Answer      = (*Model).Do
	_ func(*Model, api.Call) bool            = (*Model).Ring
	_ func(*Model, int) []int                = (*Model).Deliver
	_ func(*Model, int) (api.Standing, bool) = (*Model).Standing
)

// The document's codes, kinds, requests and bounds, told anew, so that a wrong one in the package is found.
const (
	ok            = 0
	noAction      = 1
	notAvailable  = 2
	invalidParam  = 3
	invalidConfig = 4
	invalidMode   = 5
	accessFault   = 6

	sampling = 1
	queuing  = 2

	create  = 1
	normal  = 2
	write   = 3
	read    = 4
	send    = 5
	receive = 6
	status  = 7
	peek    = 8
	poke    = 9

	maxWords = 16
	lastTick = 1 << 40
	top      = math.MaxUint32
)

// far are numbers below and above all that may be; cut to fewer bits, doubled or halved, some of them become one that may be.
var far = []int{
	-1, -2, -3, -8, -9, -256, -257, math.MinInt32, math.MinInt32 + 1, -1 << 32, -1<<32 + 1, -1 << 62, math.MinInt, math.MinInt + 1, math.MinInt + 2,
	64, 100, 255, 256, 257, 1 << 16, 1<<16 + 3, math.MaxInt32, math.MaxInt32 + 1, 1<<32 - 1, 1 << 32, 1<<32 + 1, 1<<32 + 3, 1 << 62, 1<<62 + 1, math.MaxInt - 1, math.MaxInt,
}

func sample(from, to, words, period int) api.Chan {
	return api.Chan{Kind: sampling, From: from, To: to, Words: words, Period: period}
}

func queue(from, to, words, depth int) api.Chan {
	return api.Chan{Kind: queuing, From: from, To: to, Words: words, Depth: depth, Boot: 9}
}

// config is of partitions with so many private words each, on both cores in turn, and of these channels.
func config(private []int, chans ...api.Chan) api.Config {
	c := api.Config{Chans: chans, Frames: [2]api.Frame{{Length: 8}, {Length: 8}}}
	for p, n := range private {
		c.Parts = append(c.Parts, api.Part{Core: p % 2, Private: n})
		f := &c.Frames[p%2]
		f.Windows = append(f.Windows, api.Window{Part: p, Start: p, Len: 1})
	}
	return c
}

// mixed has as many channels as there may be, of both kinds, in many directions. Private are the addresses 0 to 2 to partition 0, 3 and 4 to 1, none to 2, 5 to 12 to 3.
func mixed() api.Config {
	return config([]int{3, 2, 0, 8},
		sample(0, 1, 2, 3),      // ports 0 of 0, 1 of 1
		queue(0, 1, 3, 2),       // ports 2 of 0, 3 of 1
		sample(1, 0, 1, 0),      // ports 4 of 1, 5 of 0
		queue(1, 0, 4, 4),       // ports 6 of 1, 7 of 0
		queue(2, 0, 16, 8),      // ports 8 of 2, 9 of 0
		sample(2, 1, 16, 1<<20), // ports 10 of 2, 11 of 1
		queue(3, 1, 1, 1),       // ports 12 of 3, 13 of 1
		sample(3, 0, 3, 9),      // ports 14 of 3, 15 of 0
	)
}

// privates are mixed's private spans: the first address, and the one behind the last one.
var privates = [][2]uint64{{0, 3}, {3, 5}, {5, 5}, {5, 13}}

// owned are the ports of a partition, by the channels' From and To.
func owned(c api.Config, p int) (ports []int) {
	for k, ch := range c.Chans {
		if ch.From == p {
			ports = append(ports, 2*k)
		}
		if ch.To == p {
			ports = append(ports, 2*k+1)
		}
	}
	return ports
}

// list is n words from first on.
func list(first uint32, n int) []uint32 {
	l := make([]uint32, n)
	for i := range l {
		l[i] = first + uint32(i)
	}
	return l
}

// none makes of a list without anything in it none.
func none[T any](l []T) []T {
	if len(l) == 0 {
		return nil
	}
	return l
}

func bareAnswer(x api.Answer) api.Answer {
	x.Data = none(x.Data)
	return x
}

func bareStanding(s api.Standing) api.Standing {
	s.Made, s.Valid = none(s.Made), none(s.Valid)
	return s
}

func creates(port int) api.Request { return api.Request{Op: create, Port: port} }

var normally = api.Request{Op: normal}

func writes(port int, data ...uint32) api.Request {
	return api.Request{Op: write, Port: port, Data: data}
}

func reads(port int) api.Request { return api.Request{Op: read, Port: port} }

func sends(port int, data ...uint32) api.Request {
	return api.Request{Op: send, Port: port, Data: data}
}

func receives(port int) api.Request { return api.Request{Op: receive, Port: port} }

func asks(port int) api.Request { return api.Request{Op: status, Port: port} }

func peeks(at uint64) api.Request { return api.Request{Op: peek, Addr: at} }

func pokes(at uint64, w uint32) api.Request {
	return api.Request{Op: poke, Addr: at, Data: []uint32{w}}
}

// by is a call of a partition: neither its Stamp nor its T1 is known.
func by(p int, r api.Request) api.Call {
	return api.Call{Part: p, Req: r, To: -1, T1: -1, Own1: -1, Mark: -1, Ring: -1, Stamp: -1, Saw: -1}
}

// stamped is a Write's call.
func stamped(p, stamp int, r api.Request) api.Call {
	x := by(p, r)
	x.Stamp = stamp
	return x
}

// until is a Read's call, that is answered at a tick.
func until(p, t1 int, r api.Request) api.Call {
	x := by(p, r)
	x.T1 = t1
	return x
}

var fine = api.Answer{}

func code(e api.Errno) api.Answer { return api.Answer{Code: e} }

func words(l ...uint32) api.Answer { return api.Answer{Data: l} }

func valid(l ...uint32) api.Answer { return api.Answer{Data: l, Valid: true} }

func counts(n int) api.Answer { return api.Answer{Count: n} }

// idle is where a partition stands that has made these ports.
func idle(p int, made ...int) api.Standing { return api.Standing{Part: p, Made: made} }

// works is where it stands when it works normally.
func works(p int, made []int, valid ...int) api.Standing {
	return api.Standing{Part: p, Normal: true, Made: made, Valid: valid}
}

// player asks a model, and remembers what it did.
type player struct {
	t    *testing.T
	c    api.Config
	m    *Model
	done []func(m *Model)
}

// play is of the model of an accepted configuration, at first.
func play(t *testing.T, c api.Config) *player {
	t.Helper()
	if !defect.Accepts(c) {
		t.Fatal("defects:", slices.Collect(defect.All(c)))
	}
	return &player{t: t, c: c, m: New(c)}
}

// atWork is of a model whose partitions have made all of their ports, rising, and begun normal work.
func atWork(t *testing.T, c api.Config) *player {
	t.Helper()
	y := play(t, c)
	for p := range c.Parts {
		for _, port := range owned(c, p) {
			y.does(by(p, creates(port)), fine)
		}
		y.does(by(p, normally), fine)
	}
	return y
}

// does tells a fault unless the call comes to this.
func (y *player) does(x api.Call, want api.Answer) {
	y.t.Helper()
	y.done = append(y.done, func(m *Model) { m.Do(x) })
	if got := y.m.Do(x); !reflect.DeepEqual(bareAnswer(got), bareAnswer(want)) {
		y.t.Fatalf("%+v instead of %+v: partition %d's %+v, Stamp %d, T1 %d", got, want, x.Part, x.Req, x.Stamp, x.T1)
	}
}

func (y *player) rings(x api.Call, want bool) {
	y.t.Helper()
	y.done = append(y.done, func(m *Model) { m.Ring(x) })
	if got := y.m.Ring(x); got != want {
		y.t.Fatalf("%v: ring of partition %d's %+v", got, x.Part, x.Req)
	}
}

func (y *player) delivers(p int, want ...int) {
	y.t.Helper()
	y.done = append(y.done, func(m *Model) { m.Deliver(p) })
	if got := y.m.Deliver(p); !slices.Equal(got, want) {
		y.t.Fatalf("%v instead of %v are delivered to %d", got, want, p)
	}
}

func (y *player) stands(want api.Standing) {
	y.t.Helper()
	got, is := y.m.Standing(want.Part)
	if !is || !reflect.DeepEqual(bareStanding(got), bareStanding(want)) {
		y.t.Fatalf("%+v, %v instead of %+v", got, is, want)
	}
}

// again is a model that has been through the same.
func (y *player) again() *Model {
	m := New(y.c)
	for _, do := range y.done {
		do(m)
	}
	return m
}

// refuses tells a fault unless the call is answered by this code, twice, and changes nothing.
func (y *player) refuses(x api.Call, want api.Errno) {
	y.t.Helper()
	before, m := everything(y.c, y.again()), y.again()
	for range 2 {
		if got := m.Do(x); !reflect.DeepEqual(bareAnswer(got), code(want)) {
			y.t.Fatalf("%+v instead of %d: partition %d's %+v", got, want, x.Part, x.Req)
		}
	}
	if after := everything(y.c, m); !reflect.DeepEqual(after, before) {
		y.t.Fatalf("%+v instead of %+v behind %+v", after, before, x)
	}
	y.does(x, code(want))
}

// state is all that a model can be asked for.
type state struct {
	standings []api.Standing
	is        []bool
	pending   [][]int
	answers   []api.Answer
	old       []int
}

// do adds what a call comes to.
func (s *state) do(m *Model, x api.Call) api.Answer {
	ans := bareAnswer(m.Do(x))
	s.answers = append(s.answers, ans)
	return ans
}

// everything is the state of a model, which isn't as it was any more then: what is in its rows is taken out.
func everything(c api.Config, m *Model) state {
	var s state
	for p := -1; p <= len(c.Parts); p++ {
		x, is := m.Standing(p)
		s.standings, s.is = append(s.standings, bareStanding(x)), append(s.is, is)
		s.pending = append(s.pending, none(m.Deliver(p)))
	}
	at := uint64(0)
	for p, part := range c.Parts {
		for range part.Private {
			s.do(m, by(p, peeks(at)))
			at++
		}
		for _, port := range owned(c, p) {
			s.do(m, by(p, creates(port)))
		}
		s.do(m, by(p, normally))
	}
	for p := range c.Parts {
		for _, port := range owned(c, p) {
			s.do(m, by(p, asks(port)))
		}
	}
	for k, ch := range c.Chans {
		for n := 0; ch.Kind == queuing && n <= ch.Depth && s.do(m, by(ch.To, receives(2*k+1))).Code == ok; n++ {
		}
		if ch.Kind == sampling && s.do(m, until(ch.To, -1, reads(2*k+1))).Code == ok {
			s.old = append(s.old, oldest(m, ch.To, 2*k+1))
		}
	}
	return s
}

// oldest is the first tick from 0 on at which the message of a port isn't valid; the one behind the last tick, if there is none.
func oldest(m *Model, p, port int) int {
	from, to := 0, lastTick+1
	for from < to {
		if at := (from + to) / 2; m.Do(until(p, at, reads(port))).Valid {
			from = at + 1
		} else {
			to = at
		}
	}
	return from
}

// P18.1: at first no partition has anything but its number, no bell is pending, and all words are 0; behind Create and Normal nothing is there to be read, or received.
func TestAtFirst(t *testing.T) {
	for _, c := range []api.Config{mixed(), config([]int{64}), config([]int{0, 0}, queue(1, 0, 1, 8)), config([]int{1, 2, 3, 4, 5, 6}, sample(5, 0, 16, 1<<20))} {
		y := play(t, c)
		at := uint64(0)
		for p, part := range c.Parts {
			y.stands(idle(p))
			y.delivers(p)
			for range part.Private {
				y.does(by(p, peeks(at)), words(0))
				at++
			}
		}
		y.does(by(0, peeks(at)), code(accessFault))
		y = atWork(t, c)
		for p := range c.Parts {
			y.stands(works(p, owned(c, p)))
			y.delivers(p)
			for _, port := range owned(c, p) {
				y.does(by(p, asks(port)), fine)
			}
		}
		for k, ch := range c.Chans {
			if ch.Kind == queuing {
				y.does(by(ch.To, receives(2*k+1)), code(notAvailable))
			} else {
				y.does(until(ch.To, 0, reads(2*k+1)), code(noAction))
			}
		}
		for p := range c.Parts {
			y.stands(works(p, owned(c, p)))
		}
	}
}

// The chapter's example: a Receive of an empty queue is NotAvailable.
func TestExample(t *testing.T) {
	y := atWork(t, config([]int{1, 2}, queue(0, 1, 1, 1)))
	y.does(by(1, receives(1)), code(notAvailable))
}

// The examples of the whole, as far as channels tell of them.
func TestExamplesOfTheWhole(t *testing.T) {
	c := config([]int{2, 1}, queue(0, 1, 1, 1))
	y := play(t, c)
	y.does(by(0, sends(0, 7)), code(invalidParam))
	y.does(by(0, creates(1)), code(invalidConfig))
	y.does(by(0, creates(0)), fine)
	y.does(by(0, creates(0)), code(noAction))
	y.does(by(0, sends(0, 7)), code(invalidMode))
	y.does(by(0, normally), fine)
	y.does(by(0, sends(0, 7)), fine)
	y.rings(by(0, sends(0, 7)), true)
	y.delivers(1, 1)
	y.does(by(1, creates(1)), fine)
	y.does(by(1, normally), fine)
	y.does(by(1, receives(1)), words(7))
	y.does(by(1, receives(1)), code(notAvailable))
	y.does(by(0, sends(0, 8)), fine)
	y.does(by(0, sends(0, 9)), code(notAvailable))
	y.does(by(0, asks(0)), counts(1))
	y.does(by(0, pokes(1, 5)), fine)
	y.does(by(0, peeks(1)), words(5))
	y.does(by(0, peeks(2)), code(accessFault))

	y = atWork(t, config([]int{2, 1}, sample(0, 1, 2, 3)))
	y.does(until(1, 4, reads(1)), code(noAction))
	y.does(stamped(0, 5, writes(0, 8, 9)), fine)
	y.does(until(1, 8, reads(1)), valid(8, 9))
	y.does(until(1, 9, reads(1)), words(8, 9))
}

// P18.1: calls of each kind, one behind the other, of several partitions.
func TestEachKind(t *testing.T) {
	y := play(t, mixed())
	y.does(by(0, creates(2)), fine)
	y.does(by(1, creates(1)), fine)
	y.does(by(0, creates(0)), fine)
	y.does(by(1, creates(3)), fine)
	y.stands(idle(0, 2, 0))
	y.stands(idle(1, 1, 3))
	y.does(by(1, normally), fine)
	y.stands(idle(0, 2, 0))
	y.stands(works(1, []int{1, 3}))
	y.does(by(0, normally), fine)
	y.does(stamped(0, 10, writes(0, 70, 71)), fine)
	y.does(by(0, sends(2, 80, 81, 82)), fine)
	y.does(by(1, asks(1)), fine)
	y.does(by(1, asks(3)), counts(1))
	y.does(until(1, 13, reads(1)), valid(70, 71))
	y.does(by(1, asks(1)), valid())
	y.does(by(0, asks(0)), fine)
	y.does(by(1, receives(3)), words(80, 81, 82))
	y.does(by(0, asks(2)), fine)
	y.does(by(1, pokes(4, 90)), fine)
	y.does(by(0, pokes(2, 91)), fine)
	y.does(by(1, peeks(4)), words(90))
	y.does(by(0, peeks(2)), words(91))
	y.does(by(1, peeks(3)), words(0))
	y.stands(works(0, []int{2, 0}))
	y.stands(works(1, []int{1, 3}, 1))
	y.stands(idle(2))
	y.stands(idle(3))
}

// P18.1: Create has its port among Made, behind those that are, in whatever order they are made, and changes no other partition.
func TestCreate(t *testing.T) {
	c := mixed()
	roll := dice()
	for range 20 {
		y := play(t, c)
		made := make([][]int, len(c.Parts))
		ports := roll.shuffled(2 * len(c.Chans))
		for _, port := range ports {
			p := c.Chans[port/2].From
			if port%2 == 1 {
				p = c.Chans[port/2].To
			}
			y.does(by(p, creates(port)), fine)
			made[p] = append(made[p], port)
			for p := range c.Parts {
				y.stands(idle(p, made[p]...))
			}
		}
		for i, port := range ports {
			p := c.Chans[port/2].From
			if port%2 == 1 {
				p = c.Chans[port/2].To
			}
			if i%4 == 0 {
				y.refuses(by(p, creates(port)), noAction)
				y.refuses(by((p+1)%4, creates(port)), invalidConfig)
			}
		}
	}
}

// P18.1: Normal holds from Normal on, of that partition alone, whether it has made a port or not.
func TestNormal(t *testing.T) {
	c := mixed()
	for first := range c.Parts {
		for _, some := range [][]int{nil, owned(c, first)[:1], owned(c, first)} {
			y := play(t, c)
			for _, port := range some {
				y.does(by(first, creates(port)), fine)
			}
			y.does(by(first, normally), fine)
			y.stands(works(first, some))
			for p := range c.Parts {
				if p != first {
					y.stands(idle(p))
				}
			}
			y.refuses(by(first, normally), invalidMode)
			other := (first + 1) % 4
			y.does(by(other, normally), fine)
			y.stands(works(other, nil))
			y.stands(works(first, some))
		}
	}
}

// P18.1, P18.2: what is read is the message that was written last, whole, of whatever lengths this one and those ahead of it are; Reads don't take it away.
func TestReadsTheLastMessage(t *testing.T) {
	c := config([]int{0, 0}, sample(0, 1, maxWords, 9), sample(0, 1, maxWords, 9), sample(1, 0, maxWords, 9))
	y := atWork(t, c)
	y.does(stamped(0, 7, writes(2, 1001)), fine)
	for n := 1; n <= maxWords; n++ {
		for _, first := range []int{n, maxWords, 1, maxWords + 1 - n} {
			y.does(stamped(0, 7, writes(0, list(50, first)...)), fine)
			for range 2 {
				y.does(until(1, 7, reads(1)), valid(list(50, first)...))
			}
			y.does(stamped(0, 7, writes(0, list(uint32(100*n), n)...)), fine)
			for range 3 {
				y.does(until(1, 7, reads(1)), valid(list(uint32(100*n), n)...))
			}
			y.does(until(1, 7, reads(3)), valid(1001))
			y.does(until(0, 7, reads(5)), code(noAction))
		}
	}
	for _, w := range []uint32{0, 1, 1<<31 - 1, 1 << 31, top} {
		y.does(stamped(0, 7, writes(0, w, w)), fine)
		y.does(until(1, 7, reads(1)), valid(w, w))
	}
	// Whoever writes last, whatever the stamps are.
	y.does(stamped(0, 100, writes(0, 5)), fine)
	y.does(stamped(0, 90, writes(0, 6)), fine)
	y.does(until(1, 100, reads(1)), words(6))
	y.does(until(1, 99, reads(1)), valid(6))
}

// P18.1: a Read ahead of any Write finds nothing, however late it is, and its port isn't among Valid.
func TestReadOfNothing(t *testing.T) {
	for _, period := range []int{0, 1, 1 << 20} {
		y := atWork(t, config([]int{0, 0}, sample(0, 1, 1, period), sample(0, 1, 1, period)))
		for _, t1 := range []int{-1, 0, 1, period, period + 1, lastTick} {
			y.does(until(1, t1, reads(1)), code(noAction))
			y.stands(works(1, []int{1, 3}))
			y.does(by(1, asks(1)), fine)
		}
		// Neither does what is written into another channel.
		y.does(stamped(0, 0, writes(2, 5)), fine)
		y.does(until(1, 0, reads(1)), code(noAction))
		y.does(until(1, 0, reads(3)), valid(5))
		y.does(until(1, 0, reads(1)), code(noAction))
		y.stands(works(1, []int{1, 3}, 3))
	}
}

// P18.1: a message is valid as long as T1 less its Stamp is at most Period, and not at the next tick, from the first tick to the last one.
func TestHowOld(t *testing.T) {
	for _, period := range []int{0, 1, 2, 3, 100, 1<<20 - 1, 1 << 20} {
		y := atWork(t, config([]int{0, 0}, sample(0, 1, 1, period)))
		for _, stamp := range []int{-1, 0, 1, 2, 3, period, 1 << 20, 1<<31 - 1, 1 << 31, 1<<32 - 2, 1 << 32, 1<<32 + 5, lastTick - period - 1, lastTick - period, lastTick - 1, lastTick} {
			y.does(stamped(0, stamp, writes(0, 5)), fine)
			for _, t1 := range []int{
				-1, 0, 1, stamp - 1, stamp, stamp + 1, stamp + period - 1, stamp + period, stamp + period + 1, stamp + period + 2, stamp + 2*period + 2,
				stamp + 1<<31, stamp + 1<<32, stamp + 1<<32 + period, 1 << 39, lastTick - 1, lastTick,
			} {
				if t1 < -1 || t1 > lastTick {
					continue
				}
				old := t1 > stamp+period
				want, at := valid(5), works(1, []int{1}, 1)
				if old {
					want, at = words(5), works(1, []int{1})
				}
				y.does(until(1, t1, reads(1)), want)
				y.stands(at)
				y.does(by(1, asks(1)), api.Answer{Valid: !old})
			}
		}
	}
}

// P18.1: a Read has its port among Valid, behind those that are, once, just if it finds a valid message; Status tells it, of the port at the source never.
func TestValid(t *testing.T) {
	made := []int{1, 3, 5}
	y := atWork(t, config([]int{0, 0}, sample(0, 1, 1, 3), sample(0, 1, 1, 3), sample(0, 1, 1, 3)))
	look := func(ports ...int) {
		t.Helper()
		y.stands(works(1, made, ports...))
		for _, port := range made {
			y.does(by(1, asks(port)), api.Answer{Valid: slices.Contains(ports, port)})
			y.does(by(0, asks(port-1)), fine)
		}
		y.stands(works(0, []int{0, 2, 4}))
		y.stands(works(1, made, ports...))
	}
	look()
	y.does(until(1, 0, reads(3)), code(noAction))
	look()
	for k := range 3 {
		y.does(stamped(0, 10, writes(2*k, 7)), fine)
		look()
	}
	y.does(until(1, 14, reads(3)), words(7))
	look()
	y.does(until(1, 13, reads(3)), valid(7))
	look(3)
	y.does(until(1, 13, reads(1)), valid(7))
	look(3, 1)
	y.does(until(1, 12, reads(3)), valid(7))
	look(3, 1)
	y.does(until(1, 10, reads(5)), valid(7))
	look(3, 1, 5)
	y.does(until(1, 14, reads(1)), words(7))
	look(3, 5)
	y.does(until(1, 15, reads(1)), words(7))
	look(3, 5)
	// A message that is written behind a Read makes no difference to what it found.
	y.does(stamped(0, 20, writes(0, 8)), fine)
	y.does(stamped(0, 1, writes(2, 8)), fine)
	look(3, 5)
	y.does(until(1, 20, reads(1)), valid(8))
	look(3, 5, 1)
	y.does(until(1, 20, reads(3)), words(8))
	look(5, 1)
	y.does(until(1, 10, reads(5)), valid(7))
	look(5, 1)
	y.does(until(1, 30, reads(5)), words(7))
	look(1)
	y.does(until(1, 30, reads(1)), words(8))
	look()
}

// P18.1, P18.2: a queue of each Depth holds so many messages; one more is NotAvailable, and changes nothing; they come out in order, each once; and so again.
func TestQueueIsFilledAndEmptied(t *testing.T) {
	for _, depth := range []int{1, 2, 4, 8} {
		c := config([]int{1, 1}, queue(0, 1, maxWords, depth), queue(0, 1, 1, 1), queue(1, 0, 1, 8))
		y := atWork(t, c)
		y.does(by(0, sends(2, 1001)), fine)
		next := uint32(0)
		for round := range 4 {
			var sent [][]uint32
			for n := range depth {
				data := list(next, 1+(n*5+round)%maxWords)
				next += 100
				sent = append(sent, data)
				y.does(by(0, sends(0, data...)), fine)
				y.does(by(0, asks(0)), counts(n+1))
				y.does(by(1, asks(1)), counts(n+1))
			}
			y.refuses(by(0, sends(0, 999)), notAvailable)
			y.refuses(by(0, sends(0, list(5, maxWords)...)), notAvailable)
			for n, data := range sent {
				y.does(by(1, receives(1)), words(data...))
				y.does(by(0, asks(0)), counts(depth-n-1))
				y.does(by(1, asks(1)), counts(depth-n-1))
			}
			y.refuses(by(1, receives(1)), notAvailable)
			y.does(by(1, asks(3)), counts(1))
			y.does(by(1, asks(4)), fine)
		}
		y.does(by(1, receives(3)), words(1001))
	}
}

// P18.1, P18.2: what is sent behind what was received comes behind what is left.
func TestQueueGoesOn(t *testing.T) {
	for _, depth := range []int{1, 2, 4, 8} {
		y := atWork(t, config([]int{1, 1}, queue(0, 1, 2, depth)))
		roll := dice()
		var in [][]uint32
		full, empty := 0, 0
		for n := range uint32(400) {
			if data := list(10*n, 1+roll(2)); roll(2) == 0 {
				if len(in) == depth {
					y.does(by(0, sends(0, data...)), code(notAvailable))
					full++
				} else {
					y.does(by(0, sends(0, data...)), fine)
					in = append(in, data)
				}
			} else if len(in) == 0 {
				y.does(by(1, receives(1)), code(notAvailable))
				empty++
			} else {
				y.does(by(1, receives(1)), words(in[0]...))
				in = in[1:]
			}
			y.does(by(1, asks(1)), counts(len(in)))
			y.does(by(0, asks(0)), counts(len(in)))
		}
		if full == 0 || empty == 0 {
			t.Error(depth, full, empty)
		}
	}
}

// P18.1: Status of a queue's ports, at both sides: 0, some, Depth; it changes nothing.
func TestStatusOfAQueue(t *testing.T) {
	y := atWork(t, mixed())
	for n := range 9 {
		for range 2 {
			y.does(by(2, asks(8)), counts(n))
			y.does(by(0, asks(9)), counts(n))
			y.does(by(0, asks(2)), fine)
			y.does(by(1, asks(6)), fine)
		}
		if n < 8 {
			y.does(by(2, sends(8, uint32(n))), fine)
		}
	}
	for n := range uint32(8) {
		y.does(by(0, receives(9)), words(n))
		y.does(by(2, asks(8)), counts(7-int(n)))
	}
}

// P18.1: Peek of each private word that was never poked is 0; what is poked is there, at that address alone; 0 can be poked too.
func TestPeekAndPoke(t *testing.T) {
	y := play(t, mixed())
	held := map[uint64]uint32{}
	look := func() {
		t.Helper()
		for p, span := range privates {
			for at := span[0]; at < span[1]; at++ {
				y.does(by(p, peeks(at)), words(held[at]))
			}
		}
	}
	look()
	for round, w := range []uint32{7, 0, 0, 1, top, 1 << 31, 0, 5, 5} {
		for p, span := range privates {
			for at := span[0]; at < span[1]; at++ {
				// Not all of them at once, so that words of unlike rounds stand beside each other.
				if (int(at)+round)%3 == 0 {
					continue
				}
				y.does(by(p, pokes(at, w)), fine)
				held[at] = w
				y.does(by(p, peeks(at)), words(w))
			}
		}
		look()
	}
	// At normal work, too, and with whatever port.
	y.does(by(0, normally), fine)
	for _, port := range []int{0, 1, 9, -1, 99} {
		y.does(by(0, api.Request{Op: poke, Port: port, Addr: 1, Data: []uint32{77}}), fine)
		y.does(by(0, api.Request{Op: peek, Port: port, Addr: 1, Data: list(3, 4)}), words(77))
		y.does(by(0, pokes(1, 0)), fine)
		y.does(by(0, peeks(1)), words(0))
	}
}

// P18.1: an address that isn't in the partition's own private span is no one to be peeked or poked, whosever it is.
func TestForeignAddresses(t *testing.T) {
	y := play(t, mixed())
	for p, span := range privates {
		for at := span[0]; at < span[1]; at++ {
			y.does(by(p, pokes(at, uint32(60+at))), fine)
		}
	}
	addresses := []uint64{13, 14, 100, 1 << 16, 1<<16 + 1, 1 << 31, 1 << 32, 1<<32 + 1, 1<<32 + 5, 1 << 63, 1<<63 + 4, math.MaxUint64 - 1, math.MaxUint64}
	for at := range uint64(13) {
		addresses = append(addresses, at)
	}
	for p, span := range privates {
		for _, at := range addresses {
			if at >= span[0] && at < span[1] {
				continue
			}
			y.refuses(by(p, peeks(at)), accessFault)
			y.refuses(by(p, pokes(at, 5)), accessFault)
			y.refuses(by(p, pokes(at, 0)), accessFault)
		}
	}
}

// filled is of a mixed model at work, in each of whose channels something is; some bells are pending.
func filled(t *testing.T) *player {
	t.Helper()
	y := atWork(t, mixed())
	y.does(stamped(0, 10, writes(0, 60, 61)), fine)
	y.does(by(0, sends(2, 62)), fine)
	y.does(by(0, sends(2, 63, 64, 65)), fine)
	y.does(stamped(1, 20, writes(4, 66)), fine)
	y.does(by(1, sends(6, 67)), fine)
	y.does(by(2, sends(8, list(68, 16)...)), fine)
	y.does(stamped(2, 30, writes(10, list(90, 16)...)), fine)
	y.does(by(3, sends(12, 110)), fine)
	y.does(stamped(3, 40, writes(14, 111, 112)), fine)
	y.does(until(1, 13, reads(1)), valid(60, 61))
	y.does(until(0, 41, reads(15)), valid(111, 112))
	y.does(until(0, 20, reads(5)), valid(66))
	y.rings(by(0, sends(2)), true)
	y.rings(by(3, sends(12)), true)
	y.does(by(0, pokes(0, 113)), fine)
	y.does(by(3, pokes(12, 114)), fine)
	return y
}

// P18.1: what layer 10 refuses at the partition's standing is answered by its code, changes nothing, and is refused again alike: at normal work.
func TestRefusedAtWork(t *testing.T) {
	y := filled(t)
	for _, x := range []struct {
		p    int
		r    api.Request
		want api.Errno
	}{
		{0, api.Request{}, invalidParam},
		{0, api.Request{Op: 10, Port: 0}, invalidParam},
		{3, api.Request{Op: -1, Addr: 12}, invalidParam},
		{0, creates(1), invalidConfig},
		{0, creates(16), invalidConfig},
		{0, creates(-1), invalidConfig},
		{0, creates(0), noAction},
		{0, normally, invalidMode},
		{0, writes(1, 5), invalidParam},
		{0, writes(16, 5), invalidParam},
		{1, writes(0, 5), invalidParam},
		{0, reads(1), invalidParam},
		{0, reads(-1), invalidParam},
		{1, sends(2, 5), invalidParam},
		{0, receives(3), invalidParam},
		{0, asks(1), invalidParam},
		{2, asks(11), invalidParam},
		{0, writes(2, 5), invalidMode},
		{0, writes(5, 5), invalidMode},
		{0, writes(7, 5), invalidMode},
		{0, reads(0), invalidMode},
		{0, reads(2), invalidMode},
		{0, reads(7), invalidMode},
		{0, sends(0, 5), invalidMode},
		{0, sends(5, 5), invalidMode},
		{0, sends(7, 5), invalidMode},
		{0, receives(0), invalidMode},
		{0, receives(2), invalidMode},
		{0, receives(5), invalidMode},
		{0, writes(0), invalidParam},
		{0, writes(0, 5, 6, 7), invalidConfig},
		{2, writes(10, list(5, 17)...), invalidConfig},
		{0, sends(2), invalidParam},
		{0, sends(2, 5, 6, 7, 8), invalidConfig},
		{1, sends(6, list(5, 5)...), invalidConfig},
		{0, api.Request{Op: poke, Addr: 0}, invalidParam},
		{0, api.Request{Op: poke, Addr: 0, Data: []uint32{1, 2}}, invalidParam},
		{0, api.Request{Op: poke, Addr: 99}, invalidParam},
		{0, pokes(3, 5), accessFault},
		{0, peeks(3), accessFault},
		{2, peeks(0), accessFault},
		{3, pokes(13, 5), accessFault},
		// Depth messages are in it.
		{0, sends(2, 5), notAvailable},
		{3, sends(12, 5), notAvailable},
	} {
		y.refuses(stamped(x.p, 50, x.r), x.want)
		y.refuses(until(x.p, 50, x.r), x.want)
	}
}

// P18.1: likewise ahead of Normal, and of a partition that has made nothing.
func TestRefusedAheadOfWork(t *testing.T) {
	for _, made := range []bool{true, false} {
		y := play(t, mixed())
		want := api.Errno(invalidParam)
		if made {
			want = invalidMode
			for p := range y.c.Parts {
				for _, port := range owned(y.c, p) {
					y.does(by(p, creates(port)), fine)
				}
			}
		}
		y.does(by(0, pokes(0, 113)), fine)
		for p := range y.c.Parts {
			for _, port := range owned(y.c, p) {
				for _, r := range []api.Request{writes(port, 5), reads(port), sends(port, 5), receives(port), asks(port), writes(port), sends(port, list(1, 20)...)} {
					y.refuses(by(p, r), want)
				}
				if made {
					y.refuses(by(p, creates(port)), noAction)
				}
			}
			y.refuses(by(p, asks(16)), invalidParam)
			y.refuses(by(p, creates(16)), invalidConfig)
			y.refuses(by(p, pokes(13, 5)), accessFault)
		}
		// At work, of a port that isn't made any more.
		if !made {
			y.does(by(0, normally), fine)
			y.refuses(by(0, creates(0)), invalidMode)
			y.refuses(by(0, writes(0, 5)), invalidParam)
		}
	}
}

// P18.1: whoever is no partition is refused whatever he asks for, by InvalidConfig, and has no standing.
func TestNoSuchPartition(t *testing.T) {
	y := filled(t)
	for _, p := range append([]int{4, 5, 6, 7}, far...) {
		for _, r := range []api.Request{creates(0), normally, writes(0, 5), reads(1), sends(2, 5), receives(3), asks(0), peeks(0), pokes(0, 5), {}, {Op: 10}} {
			y.does(by(p, r), code(invalidConfig))
		}
		for range 2 {
			if s, is := y.m.Standing(p); is || !reflect.DeepEqual(bareStanding(s), api.Standing{}) {
				t.Errorf("%d: %+v, %v", p, s, is)
			}
		}
		y.delivers(p)
	}
	if got, want := everything(y.c, y.m), everything(y.c, filled(t).m); !reflect.DeepEqual(got, want) {
		t.Errorf("%+v instead of %+v", got, want)
	}
	for _, p := range []int{-1, 4} {
		filled(t).refuses(by(p, writes(0, 5)), invalidConfig)
	}
}

// P18.1: Ring of a Send: the bell of its channel's destination port is pending, till it is delivered to whose port it is, once.
func TestRing(t *testing.T) {
	c := mixed()
	for k, ch := range c.Chans {
		// The port at the destination is one of the channel, too, and nothing hangs on the kind of the channel, on whose call it is, nor on what it comes to.
		for _, port := range []int{2 * k, 2*k + 1} {
			for p := -1; p <= 4; p++ {
				for often := 1; often <= 3; often++ {
					y := play(t, c)
					for range often {
						y.rings(by(p, sends(port, 5)), true)
					}
					for other := -1; other <= 4; other++ {
						if other != ch.To {
							y.delivers(other)
						}
					}
					y.delivers(ch.To, 2*k+1)
					y.delivers(ch.To)
				}
			}
		}
	}
}

// P18.1: Ring of a call of another kind, or of a port that there is not: false, and nothing is changed.
func TestRingsNothing(t *testing.T) {
	y := filled(t)
	before := everything(y.c, y.again())
	for port := range 16 {
		for _, op := range append([]int{create, normal, write, read, receive, status, peek, poke, 0, 10}, far...) {
			for p := range y.c.Parts {
				y.rings(by(p, api.Request{Op: op, Port: port, Data: []uint32{5}}), false)
			}
		}
	}
	for _, port := range append([]int{16, 17, 18}, far...) {
		for op := range 11 {
			for p := range y.c.Parts {
				y.rings(by(p, api.Request{Op: op, Port: port, Data: []uint32{5}}), false)
			}
		}
	}
	if after := everything(y.c, y.m); !reflect.DeepEqual(after, before) {
		t.Errorf("%+v instead of %+v", after, before)
	}
	y = play(t, config([]int{1, 1}))
	for port := -2; port < 4; port++ {
		y.rings(by(0, sends(port, 5)), false)
		y.delivers(0)
		y.delivers(1)
	}
}

// P18.1: a call's effect rings nothing, and Ring has no other effect.
func TestRingIsntTheEffect(t *testing.T) {
	y := atWork(t, mixed())
	y.does(by(0, sends(2, 5)), fine)
	y.does(by(2, sends(8, 5)), fine)
	for p := range y.c.Parts {
		y.delivers(p)
	}
	y.rings(by(0, sends(2, 6)), true)
	y.does(by(1, asks(3)), counts(1))
	y.does(by(1, receives(3)), words(5))
	y.rings(by(0, sends(2, 7)), true)
	y.does(by(1, asks(3)), fine)
	y.does(by(1, receives(3)), code(notAvailable))
	y.does(by(0, normally), code(invalidMode))
	y.delivers(1, 3)
	y.delivers(1)
	// Neither does a delivery.
	y.does(by(0, asks(9)), counts(1))
}

// P18.1: Deliver tells all of a partition's destination ports whose bells are pending, rising, in whatever order they were rung; a second time none; others' stay pending.
func TestDeliver(t *testing.T) {
	c := mixed()
	roll := dice()
	for range 200 {
		y := play(t, c)
		pending := map[int]bool{}
		for range 12 {
			for _, k := range roll.shuffled(8)[:roll(9)] {
				y.rings(by(c.Chans[k].From, sends(2*k, 5)), true)
				pending[2*k+1] = true
			}
			p := roll(4)
			var want []int
			for _, port := range owned(c, p) {
				if port%2 == 1 && pending[port] {
					want = append(want, port)
					pending[port] = false
				}
			}
			y.delivers(p, want...)
			y.delivers(p)
		}
	}
	// All of them.
	y := play(t, c)
	for _, k := range []int{7, 3, 5, 0, 4, 1, 2, 6} {
		y.rings(by(c.Chans[k].From, sends(2*k, 5)), true)
	}
	y.delivers(2)
	y.delivers(1, 1, 3, 11, 13)
	y.delivers(3)
	y.delivers(0, 5, 7, 9, 15)
	for p := range c.Parts {
		y.delivers(p)
	}
}

// dicer rolls numbers from 0 on, below n: the same ones in each run.
type dicer func(n int) int

func dice() dicer {
	state := uint64(18)
	return func(n int) int {
		state = state*6364136223846793005 + 1442695040888963407
		return int(state >> 33 % uint64(n))
	}
}

// shuffled are the numbers below n, in any order.
func (roll dicer) shuffled(n int) []int {
	l := make([]int, n)
	for i := range l {
		j := roll(i + 1)
		l[i], l[j] = l[j], i
	}
	return l
}
