package part

import (
	"math"
	"reflect"
	"slices"
	"testing"

	"porthole/api"
	"porthole/bell"
	"porthole/defect"
	"porthole/layout"
	"porthole/mem"
	"porthole/task"
)

// The calls have the chapter's signatures.
var (
	_ func(api.Config, int, ...api.Request) *Part    = New
	_ func(*Part, *mem.Mem, *bell.Set, int) api.Move = (*Part).Step
	_ func(*Part) api.Standing                       = (*Part).Standing
	_ func(*Part) int                                = (*Part).Own
	_ func(*Part) int                                = (*Part).Left
	_ func(*Part) (api.Request, bool)                = (*Part).Now
	_ func(*Part) api.Request                        = (*Part).Next
)

// The document's codes, kinds, requests and bounds, told anew, so that a wrong one in the package is found.
const (
	ok            = 0
	noAction      = 1
	notAvailable  = 2
	invalidParam  = 3
	invalidConfig = 4
	invalidMode   = 5
	accessFault   = 6

	sampling = 1
	queuing  = 2

	create  = 1
	normal  = 2
	write   = 3
	read    = 4
	send    = 5
	receive = 6
	status  = 7
	peek    = 8
	poke    = 9

	maxWords = 16
	lastTick = 1<<31 - 1
	top      = math.MaxUint32
)

func sample(from, to, words, period int) api.Chan {
	return api.Chan{Kind: sampling, From: from, To: to, Words: words, Period: period}
}

func queue(from, to, words, depth int, boot uint32) api.Chan {
	return api.Chan{Kind: queuing, From: from, To: to, Words: words, Depth: depth, Boot: boot}
}

// config is of partitions with so many private words each, on both cores in turn, and of these channels.
func config(private []int, chans ...api.Chan) api.Config {
	c := api.Config{Chans: chans, Frames: [2]api.Frame{{Length: 8}, {Length: 8}}}
	for p, n := range private {
		c.Parts = append(c.Parts, api.Part{Core: p % 2, Private: n})
		f := &c.Frames[p%2]
		f.Windows = append(f.Windows, api.Window{Part: p, Start: p, Len: 1})
	}
	return c
}

// short has a channel of each kind from 0 to 1. Private are addresses 0 and 1 to partition 0, 2 to 4 to 1. Of ports 0 and 1 latest is address 5, the slots 6 and 7, the buffers from 8, 12, 16 and 20 on, reading 24; of ports 2 and 3 tail is 25, the cells from 26 and 30 on, head 34.
func short() api.Config { return config([]int{2, 3}, sample(0, 1, 2, 3), queue(0, 1, 3, 2, 0)) }

const (
	shortSize  = 35
	shortBells = 4
	latest     = 5
	reading    = 24
	tail       = 25
	head       = 34
)

// mixed has channels of both kinds beside each other, in many directions; some numbers go round.
func mixed() api.Config {
	return config([]int{2, 0, 64},
		queue(0, 1, 1, 1, top),
		sample(0, 1, 1, 0),
		queue(1, 2, 3, 2, 0),
		queue(1, 2, 16, 8, top-3),
		sample(2, 0, 16, 7),
		sample(0, 2, 3, 1<<20),
		queue(2, 0, 5, 4, 77),
		sample(1, 0, 2, 5),
	)
}

// list is n words from first on.
func list(first uint32, n int) []uint32 {
	l := make([]uint32, n)
	for i := range l {
		l[i] = first + uint32(i)
	}
	return l
}

// held is a memory of these words.
func held(t *testing.T, words []uint32) *mem.Mem {
	t.Helper()
	m, e := mem.New(len(words))
	if e != ok {
		t.Fatal("no memory of", len(words))
	}
	for at, w := range words {
		m.Store(uint64(at), w)
	}
	return m
}

// blank is a memory of n noughts.
func blank(t *testing.T, n int) *mem.Mem { return held(t, make([]uint32, n)) }

// atFirst is a memory as a machine has it at first: noughts, but tails and heads.
func atFirst(t *testing.T, c api.Config) *mem.Mem {
	t.Helper()
	m := blank(t, layout.Size(c))
	for k, ch := range c.Chans {
		if ch.Kind == queuing {
			m.Store(uint64(layout.Source(c, k).From), ch.Boot)
			m.Store(uint64(layout.Dest(c, k).From), ch.Boot)
		}
	}
	return m
}

// bells is n bells, of which these are pending.
func bells(t *testing.T, n int, pending ...int) *bell.Set {
	t.Helper()
	b, e := bell.New(n)
	if e != ok {
		t.Fatal("no bells:", n)
	}
	for _, i := range pending {
		if b.Ring(i) != ok {
			t.Fatal("no bell", i)
		}
	}
	return b
}

func pending(b *bell.Set) []int { return slices.Collect(b.All()) }

// none makes of a list without anything in it none.
func none[T any](l []T) []T {
	if len(l) == 0 {
		return nil
	}
	return l
}

func toldMove(x api.Move) api.Move {
	x.Did.Ans.Data = none(x.Did.Ans.Data)
	return x
}

func toldStanding(s api.Standing) api.Standing {
	s.Made, s.Valid = none(s.Made), none(s.Valid)
	return s
}

func toldRequest(r api.Request) api.Request {
	r.Data = none(r.Data)
	return r
}

func code(e api.Errno) api.Answer { return api.Answer{Code: e} }

// view is all that a partition tells of itself.
type view struct {
	standing  api.Standing
	own, left int
	now       api.Request
	under     bool
	next      api.Request
}

func look(x *Part) view {
	now, under := x.Now()
	return view{toldStanding(x.Standing()), x.Own(), x.Left(), toldRequest(now), under, toldRequest(x.Next())}
}

// sees tells a fault unless the partition tells just that of itself, asked twice, since asking changes nothing.
func sees(t *testing.T, x *Part, want view) {
	t.Helper()
	want.standing, want.now, want.next = toldStanding(want.standing), toldRequest(want.now), toldRequest(want.next)
	for range 2 {
		if got := look(x); !reflect.DeepEqual(got, want) {
			t.Fatalf("%+v instead of %+v", got, want)
		}
	}
}

// due is what a step behind a call's first one is to do: its tick, the word that it stores (none, if at is below 0), and what it tells.
type due struct {
	now, at int
	word    uint32
	did     api.Did
}

// loads is due of a step that stores nothing.
func loads(now int, did api.Did) due { return due{now, -1, 0, did} }

var (
	nothing = api.Did{}
	stamped = api.Did{Stamped: true}
	marked  = api.Did{Mark: true}
	ended   = api.Did{Done: true}
	both    = api.Did{Done: true, Mark: true}
	rung    = api.Did{Done: true, Ring: true}
	full    = api.Did{Done: true, Mark: true, Ans: api.Answer{Code: notAvailable}}
	empty   = full
)

func buffer(n int) api.Did { return api.Did{Buffer: n} }

func unfound(n int) api.Did {
	return api.Did{Done: true, Ans: api.Answer{Code: noAction}, Buffer: n}
}

func found(valid bool, data ...uint32) api.Did {
	return api.Did{Done: true, Ans: api.Answer{Code: ok, Data: data, Valid: valid}}
}

func taken(data ...uint32) api.Did {
	return api.Did{Done: true, Mark: true, Ans: api.Answer{Code: ok, Data: data}}
}

func counts(n int) api.Did {
	return api.Did{Done: true, Mark: true, Ans: api.Answer{Code: ok, Count: n}}
}

// call is what a request is to come to: it is answered as it begins, by ans, if it has no further steps; and where the partition is to stand behind its answer.
type call struct {
	r      api.Request
	ans    api.Answer
	steps  []due
	stands api.Standing
}

// once is of a call that is answered as it begins.
func once(r api.Request, ans api.Answer, stands api.Standing) call { return call{r, ans, nil, stands} }

// long is of a call that is answered by a further step.
func long(r api.Request, stands api.Standing, steps ...due) call {
	return call{r, api.Answer{}, steps, stands}
}

// player goes through what a partition's calls are to come to.
type player struct {
	t        *testing.T
	x        *Part
	rings    int // the bell that it may ring
	calls    []call
	at, n    int // the call that is next, or under way, and how many of its steps were done
	own      int
	standing api.Standing
}

// play is a partition at first, whose stream is of these calls.
func play(t *testing.T, c api.Config, p, rings int, calls ...call) *player {
	t.Helper()
	if !defect.Accepts(c) {
		t.Fatal("defects:", slices.Collect(defect.All(c)))
	}
	var stream []api.Request
	for _, x := range calls {
		stream = append(stream, x.r)
	}
	y := &player{t: t, x: New(c, p, stream...), rings: rings, calls: calls, standing: api.Standing{Part: p}}
	y.looks()
	return y
}

// looks tells a fault unless the partition tells of itself what it should.
func (y *player) looks() {
	y.t.Helper()
	v := view{standing: y.standing, own: y.own, left: len(y.calls) - y.at}
	rest := y.calls[y.at:]
	if y.n > 0 {
		v.now, v.under, v.left = rest[0].r, true, v.left-1
		rest = rest[1:]
	}
	if len(rest) > 0 {
		v.next = rest[0].r
	}
	sees(y.t, y.x, v)
}

// turn is the next step's due, and what it should tell.
func (y *player) turn() (due, api.Move) {
	if y.at == len(y.calls) {
		return due{lastTick, -1, 0, nothing}, api.Move{}
	}
	x := y.calls[y.at]
	y.own++
	y.n++
	d, begun := loads(lastTick, nothing), y.n == 1
	switch {
	case !begun:
		d = x.steps[y.n-2]
	case len(x.steps) == 0:
		d.did = api.Did{Done: true, Mark: true, Ans: x.ans}
	}
	if d.did.Done {
		y.at, y.n, y.standing = y.at+1, 0, x.stands
	}
	return d, api.Move{Acted: true, Begun: begun, Did: d.did}
}

// step does the next step, and tells a fault unless it does what is due, changes no other word, and rings no bell but when it is told.
func (y *player) step(m *mem.Mem, b *bell.Set) {
	y.t.Helper()
	at := y.at
	d, want := y.turn()
	words, bells := m.Words(), pending(b)
	if d.at >= 0 {
		words[d.at] = d.word
	}
	if d.did.Ring && !slices.Contains(bells, y.rings) {
		bells = append(bells, y.rings)
		slices.Sort(bells)
	}
	if got := y.x.Step(m, b, d.now); !reflect.DeepEqual(toldMove(got), toldMove(want)) {
		y.t.Fatalf("call %d: own step %d moves %+v instead of %+v", at, y.own, got, want)
	}
	if got := m.Words(); !slices.Equal(got, words) {
		y.t.Fatalf("call %d: own step %d: %v instead of %v", at, y.own, got, words)
	}
	if got := pending(b); !slices.Equal(got, bells) {
		y.t.Fatalf("call %d: own step %d: bells %v instead of %v", at, y.own, got, bells)
	}
	y.looks()
}

// end does all steps that are left, and some behind the last answer, which are none.
func (y *player) end(m *mem.Mem, b *bell.Set) {
	y.t.Helper()
	for y.at < len(y.calls) {
		y.step(m, b)
	}
	for range 3 {
		y.step(m, b)
	}
}

// upTo does the steps up to the answer of the call at place i, from 0 on.
func (y *player) upTo(i int, m *mem.Mem, b *bell.Set) {
	y.t.Helper()
	for y.at <= i {
		y.step(m, b)
	}
}

func creates(port int) api.Request { return api.Request{Op: create, Port: port} }

var normally = api.Request{Op: normal}

func writes(port int, data ...uint32) api.Request {
	return api.Request{Op: write, Port: port, Data: data}
}

func reads(port int) api.Request { return api.Request{Op: read, Port: port} }

func sends(port int, data ...uint32) api.Request {
	return api.Request{Op: send, Port: port, Data: data}
}

func receives(port int) api.Request { return api.Request{Op: receive, Port: port} }

func asks(port int) api.Request { return api.Request{Op: status, Port: port} }

func peeks(at uint64) api.Request { return api.Request{Op: peek, Addr: at} }

func pokes(at uint64, w uint32) api.Request {
	return api.Request{Op: poke, Addr: at, Data: []uint32{w}}
}

// idle is where a partition stands that has made these ports.
func idle(p int, made ...int) api.Standing { return api.Standing{Part: p, Made: made} }

// works is where it stands when it works normally.
func works(p int, made []int, valid ...int) api.Standing {
	return api.Standing{Part: p, Normal: true, Made: made, Valid: valid}
}

// setUp is of a partition that makes these ports, one behind the other, and begins normal work.
func setUp(p int, ports ...int) []call {
	var l []call
	for i, port := range ports {
		l = append(l, once(creates(port), code(ok), idle(p, ports[:i+1]...)))
	}
	return append(l, once(normally, code(ok), works(p, ports)))
}

// P14.1, P14.2: a stream with requests of each kind, at the source of a channel of each kind, step by step to its end; refused ones stand in its midst, and change nothing.
func TestAtTheSource(t *testing.T) {
	zero, made0, made := idle(0), idle(0, 0), idle(0, 0, 2)
	at := works(0, []int{0, 2})
	y := play(t, short(), 0, 3,
		once(writes(0, 1), code(invalidParam), zero),
		once(asks(2), code(invalidParam), zero),
		once(creates(1), code(invalidConfig), zero),
		once(creates(0), code(ok), made0),
		once(creates(0), code(noAction), made0),
		once(creates(4), code(invalidConfig), made0),
		once(creates(2), code(ok), made),
		once(writes(0, 1), code(invalidMode), made),
		once(sends(2, 1), code(invalidMode), made),
		once(api.Request{Op: 10}, code(invalidParam), made),
		long(pokes(1, 6), made, due{1, 1, 6, both}),
		once(normally, code(ok), at),
		once(normally, code(invalidMode), at),
		once(creates(2), code(noAction), at),
		once(creates(3), code(invalidConfig), at),
		long(peeks(1), at, loads(2, taken(6))),
		once(peeks(2), code(accessFault), at),
		long(writes(0, 71, 72), at,
			loads(10, nothing), loads(11, nothing), due{12, 20, 2, buffer(4)}, due{13, 21, 13, stamped}, due{14, 22, 71, nothing}, due{15, 23, 72, nothing}, due{16, 7, 1, nothing}, due{17, latest, 1, both}),
		once(asks(0), code(ok), at),
		long(sends(2, 81), at,
			loads(20, nothing), due{20, 26, 1, nothing}, due{21, 27, 81, nothing}, due{22, tail, 1, marked}, loads(23, rung)),
		once(sends(2), code(invalidParam), at),
		once(sends(0, 81), code(invalidMode), at),
		long(asks(2), at, loads(24, counts(1))),
		long(sends(2, 91, 92, 93), at,
			loads(25, nothing), due{25, 30, 3, nothing}, due{25, 31, 91, nothing}, due{25, 32, 92, nothing}, due{25, 33, 93, nothing}, due{25, tail, 2, marked}, loads(26, rung)),
		long(asks(2), at, loads(27, counts(2))),
		long(sends(2, 99), at, loads(28, full)),
		long(sends(2, 98), at, loads(29, full)),
		long(asks(2), at, loads(30, counts(2))),
		once(writes(0, 1, 2, 3), code(invalidConfig), at),
		long(writes(0, 73), at,
			loads(31, nothing), loads(32, nothing), due{33, 16, 1, buffer(3)}, due{34, 17, 34, stamped}, due{35, 18, 73, nothing}, due{36, 7, 0, marked}, due{37, latest, 1, ended}),
		long(pokes(0, top), at, due{38, 0, top, both}),
		once(reads(0), code(invalidMode), at),
	)
	y.end(blank(t, shortSize), bells(t, shortBells, 1))
	if got := y.x.Own(); got != 67 {
		t.Error(got)
	}
}

// P14.1, P14.2: likewise at the destination, in a memory into which messages were written, and sent.
func TestAtTheDestination(t *testing.T) {
	words := make([]uint32, shortSize)
	copy(words[latest:], []uint32{1, 1, 0})
	copy(words[16:], []uint32{1, 34, 73}) // pair 1, index 0
	copy(words[tail:], []uint32{2, 1, 81, 0, 0, 3, 91, 92, 93})
	zero, made3, made, made2 := idle(1), idle(1, 3), idle(1, 3, 1), []int{3, 1}
	at, valid := works(1, made2), works(1, made2, 1)
	// readTo are the steps of a read that finds the message.
	readTo := func(now int, did api.Did) []due {
		return []due{loads(0, nothing), {0, reading, 1, nothing}, loads(0, nothing), loads(0, buffer(3)), loads(0, nothing), loads(now, did)}
	}
	y := play(t, short(), 1, -1,
		once(api.Request{Op: -1, Port: 3}, code(invalidParam), zero),
		once(creates(3), code(ok), made3),
		once(creates(2), code(invalidConfig), made3),
		once(creates(1), code(ok), made),
		once(reads(1), code(invalidMode), made),
		once(receives(3), code(invalidMode), made),
		long(pokes(4, 5), made, due{0, 4, 5, both}),
		once(normally, code(ok), at),
		once(asks(1), code(ok), at),
		long(asks(3), at, loads(0, counts(2))),
		long(reads(1), valid, readTo(37, found(true, 73))...),
		once(asks(1), api.Answer{Code: ok, Valid: true}, valid),
		once(creates(1), code(noAction), valid),
		once(normally, code(invalidMode), valid),
		once(reads(3), code(invalidMode), valid),
		once(receives(1), code(invalidMode), valid),
		long(receives(3), valid, loads(0, nothing), loads(0, nothing), loads(0, nothing), due{0, head, 1, taken(81)}),
		long(peeks(4), valid, loads(0, taken(5))),
		long(asks(3), valid, loads(0, counts(1))),
		long(receives(3), valid, loads(0, nothing), loads(0, nothing), loads(0, nothing), loads(0, nothing), loads(0, nothing), due{0, head, 2, taken(91, 92, 93)}),
		long(receives(3), valid, loads(0, empty)),
		long(reads(1), valid, readTo(35, found(true, 73))...),
		long(receives(3), valid, loads(0, empty)),
		long(asks(3), valid, loads(0, counts(0))),
		long(reads(1), at, readTo(38, found(false, 73))...),
		once(peeks(1), code(accessFault), at),
		once(asks(1), code(ok), at),
		once(writes(1, 7), code(invalidMode), at),
		long(peeks(2), at, loads(0, taken(0))),
	)
	y.end(held(t, words), bells(t, shortBells, 0, 3))
	if got := y.x.Own(); got != 65 {
		t.Error(got)
	}
}

// P14.1, P14.2: at first a partition has nothing but its number, whatever its stream is, and has done no step.
func TestAtFirst(t *testing.T) {
	c := mixed()
	stream := []api.Request{creates(0), {Op: peek, Port: -3, Addr: 1 << 40, Data: []uint32{4, 5}}, normally, {}}
	for p := range c.Parts {
		for n := range len(stream) + 1 {
			for from := range n + 1 {
				want := view{standing: idle(p), left: n - from}
				if from < n {
					want.next = stream[from]
				}
				sees(t, New(c, p, stream[from:n]...), want)
			}
		}
	}
}

// The chapter's example, and P14.1, P14.2: of no requests no step is done, however often it is asked for.
func TestNoRequests(t *testing.T) {
	c := mixed()
	words, rings := list(5, layout.Size(c)), []int{0, 3, 15}
	for p := range c.Parts {
		for _, x := range []*Part{New(c, p), New(c, p, nil...), New(c, p, []api.Request{}...)} {
			m, b := held(t, words), bells(t, 16, rings...)
			for _, now := range []int{0, 1, lastTick} {
				if got := x.Step(m, b, now); !reflect.DeepEqual(toldMove(got), api.Move{}) {
					t.Errorf("%+v", got)
				}
				sees(t, x, view{standing: idle(p)})
			}
			if !slices.Equal(m.Words(), words) || !slices.Equal(pending(b), rings) {
				t.Error(m.Words(), pending(b))
			}
		}
	}
}

// P14.1, P14.2: a single request, of each kind, at first: what it comes to, and that behind its answer nothing is done.
func TestOneRequest(t *testing.T) {
	for _, x := range []struct {
		p int
		y call
	}{
		{0, once(creates(0), code(ok), idle(0, 0))},
		{0, once(creates(2), code(ok), idle(0, 2))},
		{1, once(creates(1), code(ok), idle(1, 1))},
		{1, once(creates(3), code(ok), idle(1, 3))},
		{1, once(creates(0), code(invalidConfig), idle(1))},
		{0, once(creates(-1), code(invalidConfig), idle(0))},
		{0, once(normally, code(ok), works(0, nil))},
		{1, once(normally, code(ok), works(1, nil))},
		{0, once(writes(0, 1), code(invalidParam), idle(0))},
		{1, once(reads(1), code(invalidParam), idle(1))},
		{0, once(sends(2, 1), code(invalidParam), idle(0))},
		{1, once(receives(3), code(invalidParam), idle(1))},
		{0, once(asks(0), code(invalidParam), idle(0))},
		{1, once(asks(3), code(invalidParam), idle(1))},
		{0, once(peeks(2), code(accessFault), idle(0))},
		{0, once(api.Request{Op: poke}, code(invalidParam), idle(0))},
		{0, once(api.Request{}, code(invalidParam), idle(0))},
		{0, long(peeks(1), idle(0), loads(7, taken(1001)))},
		{1, long(peeks(4), idle(1), loads(7, taken(1004)))},
		{0, long(pokes(0, 8), idle(0), due{7, 0, 8, both})},
		{1, long(pokes(2, 8), idle(1), due{7, 2, 8, both})},
	} {
		play(t, short(), x.p, -1, x.y).end(held(t, list(1000, shortSize)), bells(t, shortBells, 2))
	}
}

// P14.2: what reads tell of their port, of one that is among Valid and of one that isn't: of a message that is found valid the port is among Valid, once, behind those that are; of any other read it isn't. What is refused, and other calls, change nothing of it.
func TestValid(t *testing.T) {
	// Channel 0 has latest at 0, its first buffer at 3, reading at 15, channel 1 has 16, 19, 31.
	c := config([]int{0, 0}, sample(0, 1, 1, 3), sample(0, 1, 1, 3))
	var made []int
	calls := setUp(1, 3, 1)
	made = []int{3, 1}
	var there []bool // of each call: whether there is a message for it to find
	for range calls {
		there = append(there, true)
	}
	add := func(is bool, x call) { calls, there = append(calls, x), append(there, is) }
	first := func(port int, did api.Did, now int, valid []int) call {
		at := 16 * (port / 2)
		l := []due{loads(0, nothing), {0, at + 15, 0, nothing}, loads(0, nothing), loads(0, buffer(1)), loads(0, nothing), loads(now, did)}
		if did.Ans.Code == noAction {
			l = append(l[:3], loads(now, did))
		}
		return long(reads(port), works(1, made, valid...), l...)
	}
	young := func(port int, valid ...int) { add(true, first(port, found(true, 70), 3, valid)) }
	old := func(port int, valid ...int) { add(true, first(port, found(false, 70), 4, valid)) }
	gone := func(port int, valid ...int) { add(false, first(port, unfound(1), 3, valid)) }
	status := func(port int, is bool, valid ...int) {
		add(true, once(asks(port), api.Answer{Code: ok, Valid: is}, works(1, made, valid...)))
	}
	other := func(r api.Request, e api.Errno, valid ...int) {
		add(true, once(r, code(e), works(1, made, valid...)))
	}
	gone(1)
	old(1)
	status(1, false)
	young(1, 1)
	young(1, 1)
	status(1, true, 1)
	status(3, false, 1)
	young(3, 1, 3)
	young(1, 1, 3)
	young(3, 1, 3)
	other(creates(1), noAction, 1, 3)
	other(creates(0), invalidConfig, 1, 3)
	other(normally, invalidMode, 1, 3)
	other(writes(1, 5), invalidMode, 1, 3)
	other(receives(1), invalidMode, 1, 3)
	other(reads(0), invalidParam, 1, 3)
	other(reads(5), invalidParam, 1, 3)
	other(peeks(1), accessFault, 1, 3)
	old(1, 3)
	status(1, false, 3)
	status(3, true, 3)
	old(1, 3)
	gone(1, 3)
	young(1, 3, 1)
	gone(3, 1)
	gone(3, 1)
	old(3, 1)
	young(3, 1, 3)
	gone(1, 3)
	old(3)
	gone(3)
	young(3, 3)
	young(1, 3, 1)
	old(1, 3)
	young(1, 3, 1)
	gone(1, 3)
	y, b := play(t, c, 1, -1, calls...), bells(t, 4)
	words := make([]uint32, 32)
	for i := range calls {
		for _, at := range []int{3, 19} {
			words[at], words[at+1], words[at+2] = 0, 0, 70
			if there[i] {
				words[at] = 1
			}
		}
		y.upTo(i, held(t, words), b)
	}
	y.end(held(t, words), b)
}

// sent is the steps of a send of one word with that number, into short's queue.
func sent(n, w uint32) []due {
	cell := 26 + 4*int(n%2)
	return []due{loads(0, nothing), {0, cell, 1, nothing}, {0, cell + 1, w, nothing}, {0, tail, n + 1, marked}, loads(0, rung)}
}

// got is the steps of a receive of one word with that number, out of short's queue.
func got(n, w uint32) []due {
	return []due{loads(0, nothing), loads(0, nothing), loads(0, nothing), {0, head, n + 1, taken(w)}}
}

// Numbers at which queues begin: some of these go round within a few messages.
var numbers = []uint32{0, 1, 2, 5, 1<<31 - 1, 1 << 31, top - 3, top - 2, top - 1, top}

// P14.1: a queue's two sides begin with its Boot, and each goes on where its call ahead ended, round at 2^32 too: with calls that find it full, or empty, and with calls that have nothing to do with it, between.
func TestOwnNumbers(t *testing.T) {
	for _, boot := range numbers {
		c := short()
		c.Chans[1].Boot = boot
		from, to := works(0, []int{2}), works(1, []int{3})
		sends := func(n, w uint32) call { return long(sends(2, w), from, sent(boot+n, w)...) }
		receives := func(n, w uint32) call { return long(receives(3), to, got(boot+n, w)...) }
		counts := func(n int, stands api.Standing) call {
			return long(asks(2+stands.Part), stands, loads(0, counts(n)))
		}
		// A peek that names the port, ahead of its Create and behind it, has nothing to do with its number.
		peeked := func(p int, stands api.Standing) call {
			return long(api.Request{Op: peek, Port: 2 + p, Addr: uint64(2 * p)}, stands, loads(0, taken(0)))
		}
		poked := func(p int, stands api.Standing) call {
			at := 2 * p
			return long(api.Request{Op: poke, Port: 2 + p, Addr: uint64(at), Data: []uint32{0}}, stands, due{0, at, 0, both})
		}
		full, empty := long(api.Request{Op: send, Port: 2, Data: list(1, 3)}, from, loads(0, full)), long(api.Request{Op: receive, Port: 3}, to, loads(0, empty))

		sender := play(t, c, 0, 3, slices.Concat([]call{peeked(0, idle(0))}, setUp(0, 2), []call{
			counts(0, from), sends(0, 60), counts(1, from), poked(0, from), sends(1, 61), full, counts(2, from), full, // up to 10
			sends(2, 62), peeked(0, from), full, // up to 13
			once(creates(2), code(noAction), from), sends(3, 63), counts(1, from), sends(4, 64), counts(2, from),
		})...)
		receiver := play(t, c, 1, 3, slices.Concat([]call{poked(1, idle(1))}, setUp(1, 3), []call{
			empty, counts(0, to), // up to 4
			counts(2, to), receives(0, 60), peeked(1, to), // up to 7
			counts(2, to), receives(1, 61), receives(2, 62), once(creates(3), code(noAction), to), empty, counts(0, to), // up to 13
			counts(2, to), receives(3, 63), poked(1, to), receives(4, 64), counts(0, to), empty,
		})...)
		m, b := atFirst(t, c), bells(t, shortBells, 0)
		receiver.upTo(4, m, b)
		sender.upTo(10, m, b)
		receiver.upTo(7, m, b)
		sender.upTo(13, m, b)
		receiver.upTo(13, m, b)
		sender.end(m, b)
		receiver.end(m, b)
		if got := pending(b); !slices.Equal(got, []int{0, 3}) {
			t.Error(got)
		}
	}
}

// P14.1: own numbers are the channel's Boot and what calls made of it, whatever tail and head are in the memory.
func TestNumbersAreNotTheMemorys(t *testing.T) {
	c := short()
	c.Chans[1].Boot = 5
	from, to := works(0, []int{2}), works(1, []int{3})
	m, b := blank(t, shortSize), bells(t, shortBells)
	y := play(t, c, 0, 3, append(setUp(0, 2),
		long(sends(2, 70), from, loads(0, full)),
		long(asks(2), from, loads(0, counts(5))),
		long(sends(2, 71), from, sent(5, 71)...),
		long(asks(2), from, loads(0, counts(2))),
	)...)
	y.upTo(3, m, b)
	m.Store(head, 4)
	y.end(m, b)
	y = play(t, c, 1, -1, append(setUp(1, 3),
		long(asks(3), to, loads(0, counts(1))),
		long(receives(3), to, got(5, 71)...),
		long(receives(3), to, loads(0, empty)),
		long(receives(3), to, loads(0, nothing), loads(0, nothing), due{0, head, 7, taken()}),
	)...)
	y.upTo(4, m, b)
	m.Store(tail, 1) // and the cell of number 6 has no words
	y.end(m, b)
}

// P14.1, P14.2: two partitions on one memory, whose steps alternate, the first one ahead or the second one: sends and receives of one queue.
func TestQueueInTurn(t *testing.T) {
	from, to := works(0, []int{2}), works(1, []int{3})
	for ahead := range 2 {
		// Tail is stored with the sender's own step 8, and loaded with the receiver's: who is ahead tells what comes of it.
		third, fourth := long(receives(3), to, got(0, 70)...), long(receives(3), to, loads(0, empty))
		if ahead == 1 {
			third, fourth = fourth, third
		}
		y := [2]*player{
			play(t, short(), 0, 3, append(setUp(0, 2),
				once(sends(2), code(invalidParam), from),
				long(sends(2, 70), from, sent(0, 70)...),
				long(asks(2), from, loads(0, counts(1))),
				// Head is stored with the receiver's own step 11, or 13.
				long(asks(2), from, loads(0, counts(0))),
			)...),
			play(t, short(), 1, 3, append(setUp(1, 3),
				long(receives(3), to, loads(0, empty)),
				long(asks(3), to, loads(0, counts(0))),
				third, fourth,
				long(asks(3), to, loads(0, counts(0))),
			)...),
		}
		m, b := blank(t, shortSize), bells(t, shortBells)
		for range 20 {
			y[ahead].step(m, b)
			y[1-ahead].step(m, b)
		}
		for _, p := range y {
			if p.at < len(p.calls) {
				t.Error(ahead, p.at)
			}
		}
		if got := pending(b); !slices.Equal(got, []int{3}) {
			t.Error(got)
		}
	}
}

// P14.1, P14.2: likewise writes and reads of one sampling channel.
func TestSamplingInTurn(t *testing.T) {
	from, to, valid := works(0, []int{0}), works(1, []int{1}), works(1, []int{1}, 1)
	y := [2]*player{
		play(t, short(), 0, -1, append(setUp(0, 0),
			// Own steps 3 to 11, and 12 to 19: reading is loaded with 4 and 13.
			long(writes(0, 71, 72), from,
				loads(0, nothing), loads(0, nothing), due{0, 20, 2, buffer(4)}, due{5, 21, 5, stamped}, due{0, 22, 71, nothing}, due{0, 23, 72, nothing}, due{0, 7, 1, nothing}, due{0, latest, 1, both}),
			long(writes(0, 81), from,
				loads(0, nothing), loads(0, nothing), due{0, 16, 1, buffer(3)}, due{6, 17, 6, stamped}, due{0, 18, 81, nothing}, due{0, 7, 0, marked}, due{0, latest, 1, ended}),
		)...),
		play(t, short(), 1, -1, append(setUp(1, 1),
			// Own steps 3 to 7, 8 to 12, and 13 to 20: reading is stored with 5, 10 and 15; latest is loaded with 4, 9 and 14, and stored with the writer's 11.
			long(reads(1), to, loads(0, nothing), due{0, reading, 0, nothing}, loads(0, nothing), loads(0, unfound(1))),
			long(reads(1), to, loads(0, nothing), due{0, reading, 0, nothing}, loads(0, nothing), loads(0, unfound(1))),
			long(reads(1), valid, loads(0, nothing), due{0, reading, 1, nothing}, loads(0, nothing), loads(0, buffer(4)), loads(0, nothing), loads(0, nothing), loads(8, found(true, 71, 72))),
			once(asks(1), api.Answer{Code: ok, Valid: true}, valid),
			long(reads(1), to, loads(0, nothing), due{0, reading, 1, nothing}, loads(0, nothing), loads(0, buffer(3)), loads(0, nothing), loads(10, found(false, 81))),
		)...),
	}
	m, b := blank(t, shortSize), bells(t, shortBells, 2)
	for range 30 {
		y[0].step(m, b)
		y[1].step(m, b)
	}
	for _, p := range y {
		if p.at < len(p.calls) {
			t.Error(p.at)
		}
	}
}

// turn is a request, and the answer that it is to come to at a tick.
type turn struct {
	r    api.Request
	now  int
	want api.Answer
}

// ends does the steps of x up to an answer, at one tick, and tells a fault unless it is that one.
func ends(t *testing.T, x *Part, m *mem.Mem, b *bell.Set, y turn) {
	t.Helper()
	for range 100 {
		move := x.Step(m, b, y.now)
		if !move.Did.Done {
			continue
		}
		got, want := move.Did.Ans, y.want
		got.Data, want.Data = none(got.Data), none(want.Data)
		if !reflect.DeepEqual(got, want) {
			t.Errorf("%+v at %d: %+v instead of %+v", y.r, y.now, got, want)
		}
		return
	}
	t.Fatalf("%+v isn't answered", y.r)
}

// P14.1, P14.2: partitions with ports of several channels, of both kinds beside each other: each side of each queue has a number of its own, and each port is valid by its own reads.
func TestChannels(t *testing.T) {
	c := mixed()
	sources, dests := [][]int{{10, 0, 2}, {14, 4, 6}, {12, 8}}, [][]int{{15, 13, 9}, {3, 1}, {7, 11, 5}}
	const rounds = 12
	put := func(port, round int) []turn {
		ch := c.Chans[port/2]
		data := list(uint32(1000*round+10*port), 1+round%ch.Words)
		if ch.Kind == queuing {
			return []turn{{sends(port, data...), 50 * round, code(ok)}, {asks(port), 0, api.Answer{Code: ok, Count: 1}}}
		}
		return []turn{{writes(port, data...), 50 * round, code(ok)}, {asks(port), 0, code(ok)}}
	}
	// In each other round messages are too old by a tick when they are read.
	take := func(port, round int) []turn {
		ch := c.Chans[port/2]
		data := list(uint32(1000*round+10*(port-1)), 1+round%ch.Words)
		if ch.Kind == queuing {
			return []turn{{receives(port), 0, api.Answer{Code: ok, Data: data}}, {asks(port), 0, code(ok)}}
		}
		now, valid := 50*round+ch.Period+round%2, round%2 == 0
		return []turn{{reads(port), now, api.Answer{Code: ok, Data: data, Valid: valid}}, {asks(port), 0, api.Answer{Code: ok, Valid: valid}}}
	}
	var all []*Part
	var made [3][]int
	for p := range c.Parts {
		var stream []api.Request
		made[p] = slices.Concat(dests[p], sources[p])
		for _, port := range made[p] {
			stream = append(stream, creates(port))
		}
		stream = append(stream, normally)
		for round := range rounds {
			for _, port := range sources[p] {
				for _, x := range put(port, round) {
					stream = append(stream, x.r)
				}
			}
			for _, port := range dests[p] {
				for _, x := range take(port, round) {
					stream = append(stream, x.r)
				}
			}
		}
		all = append(all, New(c, p, stream...))
	}
	m, b := atFirst(t, c), bells(t, 2*len(c.Chans))
	for p, x := range all {
		for i := range made[p] {
			ends(t, x, m, b, turn{creates(made[p][i]), 0, code(ok)})
			if got := toldStanding(x.Standing()); !reflect.DeepEqual(got, idle(p, made[p][:i+1]...)) {
				t.Errorf("%+v", got)
			}
		}
		ends(t, x, m, b, turn{normally, 0, code(ok)})
	}
	for round := range rounds {
		for p, x := range all {
			for _, port := range sources[p] {
				for _, y := range put(port, round) {
					ends(t, x, m, b, y)
				}
			}
		}
		for p, x := range all {
			var valid []int
			if round%2 == 1 {
				valid = x.Standing().Valid
			}
			for _, port := range dests[p] {
				for _, y := range take(port, round) {
					ends(t, x, m, b, y)
				}
				switch {
				case c.Chans[port/2].Kind == queuing:
				case round%2 == 0:
					valid = append(valid, port)
				default:
					valid = valid[1:]
				}
				if got := toldStanding(x.Standing()); !reflect.DeepEqual(got, toldStanding(works(p, made[p], valid...))) {
					t.Errorf("%+v instead of %v", got, valid)
				}
			}
		}
		for k, ch := range c.Chans {
			if ch.Kind != queuing {
				continue
			}
			for _, at := range []int{layout.Source(c, k).From, layout.Dest(c, k).From} {
				if w, _ := m.Load(uint64(at)); w != ch.Boot+uint32(round)+1 {
					t.Error(round, k, w)
				}
			}
		}
		if got := b.Take(pending(b)...); !slices.Equal(got, []int{1, 5, 7, 13}) {
			t.Error(round, got)
		}
	}
	for p, x := range all {
		if got := x.Left(); got != 0 {
			t.Error(p, got)
		}
	}
}

// P14.1: ticks from 0 up to 2^31 - 1: the stamp that a write stores, and what a read finds valid by it.
func TestTicks(t *testing.T) {
	for _, x := range []struct {
		period, wrote, reads int
		valid                bool
	}{
		{0, 0, 0, true}, {0, 0, 1, false}, {3, 0, 3, true}, {3, 0, 4, false},
		{0, lastTick, lastTick, true}, {3, lastTick - 3, lastTick, true}, {3, lastTick - 4, lastTick, false},
		{1 << 20, lastTick - 1<<20, lastTick, true}, {1 << 20, lastTick - 1<<20 - 1, lastTick, false}, {1 << 20, 0, lastTick, false},
	} {
		c := config([]int{1, 0}, sample(0, 1, 1, x.period))
		m, b := atFirst(t, c), bells(t, 2)
		from, to := New(c, 0, creates(0), normally, writes(0, 50)), New(c, 1, creates(1), normally, reads(1))
		for _, r := range []api.Request{creates(0), normally} {
			ends(t, from, m, b, turn{r, x.reads, code(ok)})
			ends(t, to, m, b, turn{r, x.wrote, code(ok)})
		}
		ends(t, from, m, b, turn{writes(0, 50), x.wrote, code(ok)})
		// 1 private, latest, two slots, three buffers ahead of that of pair 1, index 1, and the length.
		if w, _ := m.Load(1 + 3 + 3*3 + 1); w != uint32(x.wrote) {
			t.Error(x, w)
		}
		ends(t, to, m, b, turn{reads(1), x.reads, api.Answer{Code: ok, Data: []uint32{50}, Valid: x.valid}})
		if got, want := len(to.Standing().Valid) == 1, x.valid; got != want {
			t.Error(x, got)
		}
	}
}

// The document's examples of the whole that hang on this layer: 1 to 3, 5 to 7, each call with the own step with which it is answered.
func TestExamplesOfTheWhole(t *testing.T) {
	type row struct {
		turn
		own int
	}
	goes := func(c api.Config, m *mem.Mem, p int, b *bell.Set, l ...row) {
		t.Helper()
		var stream []api.Request
		for _, x := range l {
			stream = append(stream, x.r)
		}
		x := New(c, p, stream...)
		for _, y := range l {
			ends(t, x, m, b, y.turn)
			if got := x.Own(); got != y.own {
				t.Errorf("%+v: own step %d instead of %d", y.r, got, y.own)
			}
		}
	}
	at := func(r api.Request, e api.Errno, own int) row { return row{turn{r, 0, code(e)}, own} }
	c := config([]int{2, 1}, queue(0, 1, 1, 1, 0))
	m, b := atFirst(t, c), bells(t, 2)
	goes(c, m, 0, b, at(creates(0), ok, 1), at(normally, ok, 2), at(sends(0, 7), ok, 8))
	goes(c, m, 1, b, at(creates(1), ok, 1), at(normally, ok, 2), row{turn{receives(1), 0, api.Answer{Code: ok, Data: []uint32{7}}}, 7})
	m, b = atFirst(t, c), bells(t, 2)
	goes(c, m, 1, b, at(creates(1), ok, 1), at(normally, ok, 2), at(receives(1), notAvailable, 4))
	goes(c, m, 0, b, at(creates(0), ok, 1), at(normally, ok, 2), at(sends(0, 7), ok, 8), at(sends(0, 7), notAvailable, 10), row{turn{asks(0), 0, api.Answer{Code: ok, Count: 1}}, 12})
	if got := pending(b); !slices.Equal(got, []int{1}) {
		t.Error(got)
	}
	goes(c, m, 0, b, at(pokes(1, 5), ok, 2), row{turn{peeks(1), 0, api.Answer{Code: ok, Data: []uint32{5}}}, 4}, at(peeks(2), accessFault, 5))
	goes(c, m, 0, b, at(sends(0, 7), invalidParam, 1), at(creates(1), invalidConfig, 2), at(creates(0), ok, 3), at(creates(0), noAction, 4), at(sends(0, 7), invalidMode, 5))

	c = config([]int{2, 1}, sample(0, 1, 2, 3))
	m, b = atFirst(t, c), bells(t, 2)
	reader := New(c, 1, creates(1), normally, reads(1), reads(1), reads(1))
	for _, y := range []row{at(creates(1), ok, 1), at(normally, ok, 2), at(reads(1), noAction, 7)} {
		ends(t, reader, m, b, y.turn)
		if got := reader.Own(); got != y.own {
			t.Error(y, got)
		}
	}
	goes(c, m, 0, b, at(creates(0), ok, 1), at(normally, ok, 2), row{turn{writes(0, 8, 9), 5, code(ok)}, 11})
	ends(t, reader, m, b, turn{reads(1), 8, api.Answer{Code: ok, Data: []uint32{8, 9}, Valid: true}})
	ends(t, reader, m, b, turn{reads(1), 9, api.Answer{Code: ok, Data: []uint32{8, 9}}})
}

// past is a call that was answered.
type past struct {
	r   api.Request
	ans api.Answer
}

// twin is a partition by the chapter's words: where it stands, and its numbers, are told anew each time from all answers so far.
type twin struct {
	c       api.Config
	p       int
	stream  []api.Request
	begun   int
	steps   int
	call    *task.Task
	answers []past
}

func (y *twin) standing() api.Standing {
	s := api.Standing{Part: y.p}
	for _, x := range y.answers {
		good := x.ans.Code == ok
		switch x.r.Op {
		case create:
			if good {
				s.Made = append(s.Made, x.r.Port)
			}
		case normal:
			s.Normal = s.Normal || good
		case read:
			if good && x.ans.Valid && slices.Contains(s.Valid, x.r.Port) {
				continue
			}
			if good || x.ans.Code == noAction {
				s.Valid = slices.DeleteFunc(s.Valid, func(port int) bool { return port == x.r.Port })
			}
			if x.ans.Valid {
				s.Valid = append(s.Valid, x.r.Port)
			}
		}
	}
	return s
}

// number is a port's own one: its channel's Boot, and one more of each message that was sent, or received.
func (y *twin) number(port int) uint32 {
	if port < 0 || port/2 >= len(y.c.Chans) {
		return 0
	}
	n := y.c.Chans[port/2].Boot
	for _, x := range y.answers {
		if x.r.Port == port && x.ans.Code == ok && (x.r.Op == send || x.r.Op == receive) {
			n++
		}
	}
	return n
}

func (y *twin) step(m *mem.Mem, b *bell.Set, now int) api.Move {
	move := api.Move{Acted: true}
	switch {
	case y.call != nil:
		move.Did = y.call.Step(m, b, now)
	case y.begun == len(y.stream):
		return api.Move{}
	default:
		r := y.stream[y.begun]
		y.begun++
		x, ans, is := task.Begin(y.c, y.standing(), y.number(r.Port), r)
		move.Begun, y.call = true, x
		if is {
			move.Did = api.Did{Done: true, Mark: true, Ans: ans}
		}
	}
	y.steps++
	if move.Did.Done {
		y.call = nil
		y.answers = append(y.answers, past{y.stream[y.begun-1], move.Did.Ans})
	}
	return move
}

func (y *twin) view() view {
	v := view{standing: y.standing(), own: y.steps, left: len(y.stream) - y.begun, under: y.call != nil}
	if v.under {
		v.now = y.stream[y.begun-1]
	}
	if v.left > 0 {
		v.next = y.stream[y.begun]
	}
	return v
}

// pairing is a partition, and its twin.
type pairing struct {
	part *Part
	twin *twin
}

func pair(c api.Config, p int, stream []api.Request) pairing {
	return pairing{New(c, p, stream...), &twin{c: c, p: p, stream: stream}}
}

// step does the next step of both, the twin's in a memory and with bells of its own, and tells a fault unless both do the same.
func (y pairing) step(t *testing.T, m *mem.Mem, b *bell.Set, bellCount, now int) api.Move {
	t.Helper()
	m2, b2 := held(t, m.Words()), bells(t, bellCount, pending(b)...)
	want, got := y.twin.step(m2, b2, now), y.part.Step(m, b, now)
	if !reflect.DeepEqual(toldMove(got), toldMove(want)) {
		t.Fatalf("own step %d at %d moves %+v instead of %+v", y.twin.steps, now, got, want)
	}
	if !slices.Equal(m.Words(), m2.Words()) {
		t.Fatalf("own step %d at %d: %v instead of %v", y.twin.steps, now, m.Words(), m2.Words())
	}
	if !slices.Equal(pending(b), pending(b2)) {
		t.Fatalf("own step %d at %d: bells %v instead of %v", y.twin.steps, now, pending(b), pending(b2))
	}
	sees(t, y.part, y.twin.view())
	return got
}

// dice rolls numbers that are the same at each run.
func dice() func(n int) int {
	at := uint32(1)
	return func(n int) int {
		at = at*1664525 + 1013904223
		return int(at>>8) % n
	}
}

var depths = []int{1, 2, 4, 8}

// rolledConfig is any configuration that is accepted.
func rolledConfig(roll func(n int) int) api.Config {
	private := make([]int, 2+roll(5))
	for p := range private {
		private[p] = []int{0, 1, 3, 64}[roll(4)]
	}
	c := config(private)
	for range 1 + roll(8) {
		from := roll(len(private))
		to := (from + 1 + roll(len(private)-1)) % len(private)
		words := []int{1, 2, 1 + roll(maxWords), maxWords}[roll(4)]
		if roll(2) == 0 {
			c.Chans = append(c.Chans, queue(from, to, words, depths[roll(4)], numbers[roll(len(numbers))]))
		} else {
			c.Chans = append(c.Chans, sample(from, to, words, []int{0, roll(9), roll(99), 1 << 20}[roll(4)]))
		}
	}
	return c
}

// portsOf are the ports of a partition.
func portsOf(c api.Config, p int) (ports []int) {
	for k, ch := range c.Chans {
		if ch.From == p {
			ports = append(ports, 2*k)
		}
		if ch.To == p {
			ports = append(ports, 2*k+1)
		}
	}
	return ports
}

// rolledRequest is any request, most often one that isn't refused, if the partition has made the port.
func rolledRequest(roll func(n int) int, c api.Config, p int) api.Request {
	ports := portsOf(c, p)
	at := 0
	for _, x := range c.Parts[:p] {
		at += x.Private
	}
	r := api.Request{Op: roll(11), Port: roll(2*len(c.Chans)+2) - 1, Addr: uint64(at + roll(c.Parts[p].Private+1)), Data: list(uint32(roll(1<<20)), []int{0, 1, 1, roll(18)}[roll(4)])}
	if len(ports) == 0 || roll(6) == 0 {
		return r
	}
	r.Port = ports[roll(len(ports))]
	ch := c.Chans[r.Port/2]
	if r.Op != peek && r.Op != poke && roll(12) > 0 {
		r.Op = []int{write, read, send, receive}[2*(ch.Kind-sampling)+r.Port%2]
		if roll(4) == 0 {
			r.Op = status
		}
	}
	if r.Op == write || r.Op == send {
		r.Data = list(uint32(roll(1<<20)), 1+roll(ch.Words))
	}
	return r
}

// rolledStream is any stream of a partition, most often one that makes most of its ports, and then begins normal work.
func rolledStream(roll func(n int) int, c api.Config, p int) (stream []api.Request) {
	ports := portsOf(c, p)
	for i := range ports {
		j := i + roll(len(ports)-i)
		ports[i], ports[j] = ports[j], ports[i]
		if roll(12) > 0 {
			stream = append(stream, creates(ports[i]))
		}
		if roll(5) == 0 {
			stream = append(stream, rolledRequest(roll, c, p))
		}
	}
	if roll(12) > 0 {
		stream = append(stream, normally)
	}
	for range roll(40) {
		stream = append(stream, rolledRequest(roll, c, p))
	}
	return stream
}

// what tells of an answer what it is, for counting.
func what(x past) string {
	kind := []string{"none", "create", "normal", "write", "read", "send", "receive", "status", "peek", "poke", "none"}[x.r.Op]
	switch {
	case x.ans.Code == ok && x.ans.Valid:
		return kind + " valid"
	case x.ans.Code == ok && x.ans.Count > 0:
		return kind + " counts"
	case x.ans.Code == ok:
		return kind
	case x.ans.Code == noAction || x.ans.Code == notAvailable:
		return kind + " in vain"
	}
	return "refused"
}

// P14.1, P14.2, P14.3: all partitions of a machine on one memory, with any streams, whose steps follow each other in any way, at any ticks: each moves as its twin does, and tells the same of itself.
func TestManyTogether(t *testing.T) {
	roll := dice()
	times := map[string]int{}
	for range 150 {
		c := rolledConfig(roll)
		if !defect.Accepts(c) {
			t.Fatal(slices.Collect(defect.All(c)))
		}
		n := 2 * len(c.Chans)
		m, b := atFirst(t, c), bells(t, n)
		var all []pairing
		for p := range c.Parts {
			all = append(all, pair(c, p, rolledStream(roll, c, p)))
		}
		// Of each run one partition has its time more often than the others.
		often, now := roll(len(all)), 0
		for range 900 {
			p := roll(len(all))
			if roll(3) == 0 {
				p = often
			}
			all[p].step(t, m, b, n, now)
			if roll(8) == 0 {
				now++
			}
			if roll(50) == 0 {
				b.Take(roll(n))
			}
		}
		for _, y := range all {
			for y.step(t, m, b, n, now).Acted {
			}
			for _, x := range y.twin.answers {
				times[what(x)]++
			}
		}
	}
	for _, x := range []string{"refused", "create", "create in vain", "normal", "write", "read valid", "read", "read in vain", "send", "send in vain", "receive", "receive in vain", "status", "status valid", "status counts", "peek", "poke"} {
		if times[x] < 20 {
			t.Error(x, times)
		}
	}
}

// P14.1: a step touches the memory and the bells that it is handed, at the tick that it is handed, and no others: ahead of each all words are others, and so are the memory and the bells.
func TestEachStepByItself(t *testing.T) {
	roll := dice()
	times := map[string]int{}
	for range 200 {
		c := rolledConfig(roll)
		n, size, p := 2*len(c.Chans), layout.Size(c), roll(len(c.Parts))
		y := pair(c, p, rolledStream(roll, c, p))
		words := make([]uint32, size)
		for acted := true; acted; {
			for at := range words {
				words[at] = []uint32{0, 1, uint32(roll(20)), numbers[roll(len(numbers))] + uint32(roll(9)), uint32(roll(1<<24)) << 8 >> roll(9), top}[roll(6)]
			}
			var rings []int
			for i := range n {
				if roll(2) == 0 {
					rings = append(rings, i)
				}
			}
			acted = y.step(t, held(t, words), bells(t, n, rings...), n, []int{0, roll(200), lastTick}[roll(3)]).Acted
		}
		for _, x := range y.twin.answers {
			times[what(x)]++
		}
	}
	for _, x := range []string{"refused", "write", "read valid", "read", "read in vain", "send", "send in vain", "receive", "status counts"} {
		if times[x] < 10 {
			t.Error(x, times)
		}
	}
}

// P14.3: calls begin in the order of the stream, each with the request that was the next one, and none ahead of the answer of the one before; each is answered once, and what is under way from its beginning up to there is its request.
func TestOneAfterTheOther(t *testing.T) {
	roll := dice()
	for range 300 {
		c := rolledConfig(roll)
		n, p := 2*len(c.Chans), roll(len(c.Parts))
		stream := rolledStream(roll, c, p)
		x, m, b := New(c, p, stream...), atFirst(t, c), bells(t, n)
		begun, answered := 0, 0
		for steps := 0; ; steps++ {
			if x.Left() != len(stream)-begun || x.Own() != steps {
				t.Fatal(x.Left(), x.Own(), steps)
			}
			next := x.Next()
			move := x.Step(m, b, steps)
			if !move.Acted {
				break
			}
			if move.Begun {
				if begun != answered || !reflect.DeepEqual(toldRequest(next), toldRequest(stream[begun])) {
					t.Fatalf("%d begun, %d answered, and %+v instead of %+v begins", begun, answered, next, stream[begun])
				}
				begun++
			} else if begun != answered+1 {
				t.Fatal("a step of no call:", begun, answered)
			}
			if move.Did.Done {
				answered++
			}
			now, under := x.Now()
			if under == move.Did.Done || under && !reflect.DeepEqual(toldRequest(now), toldRequest(stream[begun-1])) {
				t.Fatalf("%+v, %v behind %+v", now, under, move)
			}
		}
		if begun != len(stream) || answered != len(stream) {
			t.Fatal(begun, answered, len(stream))
		}
	}
}

// room is a list with marked spare room behind it.
func room[T any](l []T, mark T) []T { return append(slices.Clone(l), mark, mark)[:len(l)] }

// whole is a list with its marked spare room.
func whole[T any](l []T) []T { return l[:len(l)+2] }

// roomy is the same configuration and stream, each list with marked spare room.
func roomy(c api.Config, stream []api.Request) (api.Config, []api.Request) {
	c.Parts, c.Chans = room(c.Parts, api.Part{Core: -7}), room(c.Chans, api.Chan{Kind: -7})
	for i := range c.Frames {
		c.Frames[i].Windows = room(c.Frames[i].Windows, api.Window{Part: -7})
	}
	stream = room(stream, api.Request{Op: -7})
	for i := range stream {
		stream[i].Data = room(stream[i].Data, 77)
	}
	return c, stream
}

// all is all that a configuration and a stream have, spare room included.
func all(c api.Config, stream []api.Request) []any {
	l := []any{whole(c.Parts), whole(c.Chans), whole(c.Frames[0].Windows), whole(c.Frames[1].Windows), c.Frames[0].Length, c.Frames[1].Length}
	for _, r := range stream {
		l = append(l, r.Op, r.Port, r.Addr, whole(r.Data))
	}
	return append(l, whole(stream)[len(stream):])
}

// R4: what is handed in isn't changed, spare room included.
func TestNothingHandedInIsChanged(t *testing.T) {
	roll := dice()
	for range 200 {
		c := rolledConfig(roll)
		p := roll(len(c.Parts))
		stream := rolledStream(roll, c, p)
		before := all(roomy(c, stream))
		n, m := 2*len(c.Chans), atFirst(t, c)
		c, stream = roomy(c, stream)
		x, b := New(c, p, stream...), bells(t, n)
		for x.Step(m, b, 3).Acted {
			look(x)
		}
		if after := all(c, stream); !reflect.DeepEqual(after, before) {
			t.Fatalf("%v instead of %v", after, before)
		}
	}
}

// R4: what the caller writes behind New into what it handed in, and behind a call into what it was handed out, spare room included, makes no difference: all of it is written over ahead of each step.
func TestNothingIsShared(t *testing.T) {
	roll := dice()
	over := func(l []int) {
		l = l[:cap(l)]
		for i := range l {
			l[i] = -9
		}
	}
	overWords := func(l []uint32) {
		l = l[:cap(l)]
		for i := range l {
			l[i] = 999
		}
	}
	for range 100 {
		c := rolledConfig(roll)
		n, p := 2*len(c.Chans), roll(len(c.Parts))
		stream := rolledStream(roll, c, p)
		otherConfig, otherStream := roomy(c, stream)
		y := pairing{New(otherConfig, p, otherStream...), &twin{c: c, p: p, stream: stream}}
		m, b := held(t, slices.Repeat([]uint32{uint32(roll(3))}, layout.Size(c))), bells(t, n)
		write := func() {
			for i := range otherConfig.Parts {
				otherConfig.Parts[i] = api.Part{Private: roll(9)}
			}
			for i := range otherConfig.Chans {
				otherConfig.Chans[i] = api.Chan{Kind: roll(3), Words: roll(9), Depth: roll(9), Period: roll(9)}
			}
			for i := range otherConfig.Frames {
				for j := range otherConfig.Frames[i].Windows {
					otherConfig.Frames[i].Windows[j] = api.Window{}
				}
			}
			for i := range whole(otherStream) {
				if i < len(otherStream) {
					overWords(otherStream[i].Data)
				}
				whole(otherStream)[i] = api.Request{Op: roll(9)}
			}
			s := y.part.Standing()
			over(s.Made)
			over(s.Valid)
			now, _ := y.part.Now()
			overWords(now.Data)
			overWords(y.part.Next().Data)
		}
		write()
		sees(t, y.part, y.twin.view())
		for {
			move := y.step(t, m, b, n, 3)
			if !move.Acted {
				break
			}
			overWords(move.Did.Ans.Data)
			write()
			sees(t, y.part, y.twin.view())
		}
	}
}

// R4: no two answers share memory: of each list that is handed out twice the one is written over, spare room included, and the other one stays.
func TestAnswersAreNew(t *testing.T) {
	c := short()
	x := New(c, 1, creates(1), creates(3), normally, reads(1), api.Request{Op: poke, Addr: 2, Data: []uint32{4}}, api.Request{Op: peek, Data: []uint32{5, 6}})
	words := make([]uint32, shortSize)
	copy(words[8:], []uint32{1, 0, 7})
	m, b := held(t, words), bells(t, shortBells)
	for x.Left() > 1 {
		x.Step(m, b, 0)
	}
	first, second := x.Standing(), x.Standing()
	for _, l := range [][]int{first.Made, first.Valid} {
		l = l[:cap(l)]
		for i := range l {
			l[i] = -9
		}
	}
	want := works(1, []int{1, 3}, 1)
	if !reflect.DeepEqual(second, want) || !reflect.DeepEqual(x.Standing(), want) {
		t.Errorf("%+v, %+v", second, x.Standing())
	}
	now, under := x.Now()
	again, _ := x.Now()
	next, later := x.Next(), x.Next()
	if !under {
		t.Fatal("none is under way")
	}
	for _, l := range [][]uint32{now.Data, next.Data} {
		l = l[:cap(l)]
		for i := range l {
			l[i] = 999
		}
	}
	if !slices.Equal(again.Data, []uint32{4}) || !slices.Equal(later.Data, []uint32{5, 6}) {
		t.Error(again, later)
	}
	x.Step(m, b, 0)
	if w, _ := m.Load(2); w != 4 {
		t.Error(w)
	}
	if got := x.Next(); !slices.Equal(got.Data, []uint32{5, 6}) {
		t.Error(got)
	}
}

// R3: nil lists and empty ones are one, handed in.
func TestNoneAndEmpty(t *testing.T) {
	c := short()
	stream := func(data []uint32) []api.Request {
		return []api.Request{{Op: create, Port: 0, Data: data}, {Op: create, Port: 2, Data: data}, {Op: normal, Data: data}, {Op: write, Port: 0, Data: data}, {Op: send, Port: 2, Data: data}, {Op: poke, Data: data}, {Op: peek, Data: data}}
	}
	a, b := New(c, 0, stream(nil)...), New(c, 0, stream([]uint32{})...)
	m, n := blank(t, shortSize), blank(t, shortSize)
	for range 10 {
		x, y := a.Step(m, bells(t, shortBells), 0), b.Step(n, bells(t, shortBells), 0)
		if !reflect.DeepEqual(toldMove(x), toldMove(y)) || !reflect.DeepEqual(look(a), look(b)) {
			t.Errorf("%+v, %+v", x, y)
		}
	}
}

// R5: two partitions that begin alike, with memories alike, do alike, whatever a third one does meanwhile; asking them makes no difference.
func TestAlike(t *testing.T) {
	roll := dice()
	for range 100 {
		c := rolledConfig(roll)
		n, p := 2*len(c.Chans), roll(len(c.Parts))
		stream := rolledStream(roll, c, p)
		first, second, third := New(c, p, stream...), New(c, p, stream...), New(c, p, stream...)
		m, m2, m3 := atFirst(t, c), atFirst(t, c), blank(t, layout.Size(c))
		b, b2, b3 := bells(t, n), bells(t, n), bells(t, n)
		for now := 0; ; now++ {
			look(first)
			x := first.Step(m, b, now)
			third.Step(m3, b3, 0)
			third.Step(m3, b3, 0)
			if y := second.Step(m2, b2, now); !reflect.DeepEqual(toldMove(x), toldMove(y)) {
				t.Fatalf("%+v, %+v", x, y)
			}
			if !x.Acted {
				break
			}
		}
		if !reflect.DeepEqual(look(first), look(second)) || !slices.Equal(m.Words(), m2.Words()) || !slices.Equal(pending(b), pending(b2)) {
			t.Fatal(look(first), look(second))
		}
	}
}

// R1: whatever the requests are, each is answered, and the stream comes to its end.
func TestAnyRequests(t *testing.T) {
	far := []int{0, 1, 2, 3, 4, 5, 9, 10, 16, -1, -2, math.MinInt, math.MinInt32, math.MaxInt32, math.MaxInt, 1 << 32, 1<<32 + 1}
	addresses := []uint64{0, 1, 2, 4, 5, 34, 35, 1 << 16, 1 << 31, 1 << 32, 1<<32 + 1, 1 << 63, 1<<63 + 1, math.MaxUint64}
	roll := dice()
	c := short()
	for range 300 {
		p := roll(2)
		var stream []api.Request
		for _, x := range setUp(p, p, 2+p) {
			stream = append(stream, x.r)
		}
		for range 50 {
			r := api.Request{Op: []int{roll(11), far[roll(len(far))]}[roll(2)], Port: []int{roll(4), far[roll(len(far))]}[roll(2)], Addr: addresses[roll(len(addresses))], Data: list(1, roll(5))}
			stream = slices.Insert(stream, roll(len(stream)+1), r)
		}
		y, m, b := pair(c, p, stream), atFirst(t, c), bells(t, shortBells)
		for y.step(t, m, b, shortBells, lastTick-roll(9)).Acted {
		}
		if got := len(y.twin.answers); got != len(stream) {
			t.Fatal(got, len(stream))
		}
	}
}
