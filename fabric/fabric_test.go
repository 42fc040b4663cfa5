package fabric

import (
	"iter"
	"math"
	"reflect"
	"slices"
	"testing"

	"porthole/api"
	"porthole/defect"
)

// The calls have the chapter's signatures.
var (
	_ func(api.Config, ...[]api.Request) (*Fabric, int) = New
	_ func(*Fabric, int) bool                           = (*Fabric).Do
	_ func(*Fabric, ...int) int                         = (*Fabric).Run
	_ func(*Fabric) iter.Seq2[int, api.Call]            = (*Fabric).Calls
	_ func(*Fabric) iter.Seq2[int, api.Belling]         = (*Fabric).Bellings
	_ func(*Fabric) []uint32                            = (*Fabric).Words
	_ func(*Fabric) []int                               = (*Fabric).Pending
	_ func(*Fabric) (int, int)                          = (*Fabric).Now
	_ func(*Fabric, int) (api.Standing, int, bool)      = (*Fabric).Standing
)

// The document's codes, kinds, requests, acts and bounds, told anew, so that a wrong one in the package is found.
const (
	ok            = 0
	noAction      = 1
	notAvailable  = 2
	invalidParam  = 3
	invalidConfig = 4
	invalidMode   = 5
	accessFault   = 6

	sampling = 1
	queuing  = 2

	create  = 1
	normal  = 2
	write   = 3
	read    = 4
	send    = 5
	receive = 6
	status  = 7
	peek    = 8
	poke    = 9

	pick0 = 0
	pick1 = 1
	tick  = 2

	maxWords = 16
	top      = math.MaxUint32
)

// noActs are numbers below and above those of acts; some of them are one of these once they wrap round, lose their sign, or are taken modulo 3.
var noActs = []int{
	-1, -2, -3, -6, math.MinInt8, math.MinInt32, math.MinInt32 + 1, -1 << 32, -1<<32 + 1, -1<<32 + 2, math.MinInt, math.MinInt + 1, math.MinInt + 2,
	3, 4, 5, 6, 9, 64, 255, 256, 257, 258, 1 << 16, 1<<16 + 1, math.MaxInt32, math.MaxInt32 + 1, 1 << 32, 1<<32 + 1, 1<<32 + 2, 1 << 62, math.MaxInt - 1, math.MaxInt,
}

func sample(from, to, words, period int) api.Chan {
	return api.Chan{Kind: sampling, From: from, To: to, Words: words, Period: period}
}

func queue(from, to, words, depth int, boot uint32) api.Chan {
	return api.Chan{Kind: queuing, From: from, To: to, Words: words, Depth: depth, Boot: boot}
}

func window(part, start, len int) api.Window { return api.Window{Part: part, Start: start, Len: len} }

func frameOf(length int, windows ...api.Window) api.Frame {
	return api.Frame{Length: length, Windows: windows}
}

// two are the document's two partitions, one a core, whose windows are open always, with these channels: private are addresses 0 and 1 to partition 0, 2 to 1.
func two(chans ...api.Chan) api.Config {
	return api.Config{
		Parts:  []api.Part{{Core: 0, Private: 2}, {Core: 1, Private: 1}},
		Chans:  chans,
		Frames: [2]api.Frame{frameOf(1, window(0, 0, 1)), frameOf(1, window(1, 0, 1))},
	}
}

func creates(port int) api.Request { return api.Request{Op: create, Port: port} }

var normally = api.Request{Op: normal}

func writes(port int, data ...uint32) api.Request {
	return api.Request{Op: write, Port: port, Data: data}
}

func reads(port int) api.Request { return api.Request{Op: read, Port: port} }

func sends(port int, data ...uint32) api.Request {
	return api.Request{Op: send, Port: port, Data: data}
}

func receives(port int) api.Request { return api.Request{Op: receive, Port: port} }

func asks(port int) api.Request { return api.Request{Op: status, Port: port} }

func peeks(at uint64) api.Request { return api.Request{Op: peek, Addr: at} }

func pokes(at uint64, w uint32) api.Request {
	return api.Request{Op: poke, Addr: at, Data: []uint32{w}}
}

func stream(l ...api.Request) []api.Request { return l }

func code(e api.Errno) api.Answer { return api.Answer{Code: e} }

func data(l ...uint32) api.Answer { return api.Answer{Code: ok, Data: l} }

func times(n int, act int) []int { return slices.Repeat([]int{act}, n) }

// bare makes of a list without anything in it none.
func bare[T any](l []T) []T {
	if len(l) == 0 {
		return nil
	}
	return l
}

func bareCall(x api.Call) api.Call {
	x.Req.Data, x.Ans.Data = bare(x.Req.Data), bare(x.Ans.Data)
	return x
}

func bareStanding(s api.Standing) api.Standing {
	s.Made, s.Valid = bare(s.Made), bare(s.Valid)
	return s
}

// machine is a machine of an accepted configuration.
func machine(t *testing.T, c api.Config, streams ...[]api.Request) *Fabric {
	t.Helper()
	f, k := New(c, streams...)
	if f == nil || k != 0 {
		t.Fatal("no machine:", k, slices.Collect(defect.All(c)))
	}
	return f
}

// calls are a machine's calls, with their places from 0 on.
func calls(t *testing.T, f *Fabric) []api.Call {
	t.Helper()
	var l []api.Call
	for i, x := range f.Calls() {
		if i != len(l) {
			t.Fatal("place", i, "instead of", len(l))
		}
		l = append(l, bareCall(x))
	}
	return l
}

// bellings are its deliveries, likewise.
func bellings(t *testing.T, f *Fabric) []api.Belling {
	t.Helper()
	var l []api.Belling
	for i, x := range f.Bellings() {
		if i != len(l) {
			t.Fatal("place", i, "instead of", len(l))
		}
		l = append(l, x)
	}
	return l
}

// answers are a machine's answers, in the order of its calls, of each partition.
func answers(t *testing.T, f *Fabric, p int) []api.Answer {
	t.Helper()
	var l []api.Answer
	for _, x := range calls(t, f) {
		if x.Part == p {
			l = append(l, x.Ans)
		}
	}
	return l
}

// place is where a partition stands, and how many own steps it has done.
type place struct {
	standing api.Standing
	own      int
}

// state is all that a machine tells of itself, but its calls and its deliveries.
type state struct {
	words        []uint32
	pending      []int
	tick, moment int
	places       []place
}

func look(f *Fabric, parts int) state {
	s := state{words: bare(f.Words()), pending: bare(f.Pending())}
	s.tick, s.moment = f.Now()
	for p := range parts {
		standing, own, is := f.Standing(p)
		if !is {
			own = -1
		}
		s.places = append(s.places, place{bareStanding(standing), own})
	}
	return s
}

// whole is all that a machine tells of itself.
type whole struct {
	state
	calls    []api.Call
	bellings []api.Belling
}

func lookAtAll(t *testing.T, f *Fabric, parts int) whole {
	t.Helper()
	return whole{look(f, parts), calls(t, f), bellings(t, f)}
}

// life is what a call is to be in the end, and the moment of the step that stores its stamp (-1: none does).
type life struct {
	api.Call
	stamped int
}

// asOf is what is to be told of the call once so many acts were done; false, if it hasn't begun yet.
func (x life) asOf(moment int) (api.Call, bool) {
	y := x.Call
	if y.From >= moment {
		return api.Call{}, false
	}
	if y.To >= moment {
		y.Done, y.Ans = false, api.Answer{}
		y.To, y.T1, y.Own1, y.Saw = -1, -1, -1, -1
	}
	if y.Mark >= moment {
		y.Mark = -1
	}
	if y.Ring >= moment {
		y.Ring = -1
	}
	if x.stamped >= moment {
		y.Stamp = -1
	}
	return bareCall(y), true
}

// done is what an act is to do: whose step it is (-1: nobody's), the word that it stores (-1: none, else its address), and the bells that are pending behind it.
type done struct {
	act, who, at int
	word         uint32
	bells        []int
}

// story is a machine, act by act.
type story struct {
	c        api.Config
	streams  [][]api.Request
	first    []uint32 // the memory's words
	acts     []done
	lives    []life
	bellings []api.Belling
}

// stands is where a partition is to stand by its calls as they are so far.
func stands(p int, calls []api.Call) api.Standing {
	s := api.Standing{Part: p}
	for _, x := range calls {
		if x.Part != p || !x.Done {
			continue
		}
		fine := x.Ans.Code == ok
		switch x.Req.Op {
		case create:
			if fine {
				s.Made = append(s.Made, x.Req.Port)
			}
		case normal:
			s.Normal = s.Normal || fine
		case read:
			at := slices.Index(s.Valid, x.Req.Port)
			if at < 0 && x.Ans.Valid {
				s.Valid = append(s.Valid, x.Req.Port)
			}
			if at >= 0 && !x.Ans.Valid {
				s.Valid = slices.Delete(s.Valid, at, at+1)
			}
		}
	}
	return bareStanding(s)
}

// tell goes through a story, and tells a fault unless the machine does and tells just that, behind each act.
func (x story) tell(t *testing.T) {
	t.Helper()
	f := machine(t, x.c, x.streams...)
	words, own, now := slices.Clone(x.first), make([]int, len(x.c.Parts)), 0
	var pending []int
	for moment := range len(x.acts) + 1 {
		want := whole{state: state{words: words, pending: bare(pending), tick: now, moment: moment}}
		for _, y := range x.lives {
			if call, is := y.asOf(moment); is {
				want.calls = append(want.calls, call)
			}
		}
		for _, y := range x.bellings {
			if y.At < moment {
				want.bellings = append(want.bellings, y)
			}
		}
		for p := range own {
			want.places = append(want.places, place{stands(p, want.calls), own[p]})
		}
		// Twice, since asking changes nothing.
		for range 2 {
			if got := lookAtAll(t, f, len(own)); !reflect.DeepEqual(got, want) {
				t.Fatalf("ahead of moment %d:\n%+v instead of\n%+v", moment, got, want)
			}
		}
		if moment == len(x.acts) {
			return
		}
		y := x.acts[moment]
		if !f.Do(y.act) {
			t.Fatal("isn't done:", moment)
		}
		if y.who >= 0 {
			own[y.who]++
		}
		if y.at >= 0 {
			words[y.at] = y.word
		}
		if y.act == tick {
			now++
		}
		pending = y.bells
	}
}

// trio has three partitions: 0 and 2 take turns on core 0, with a tick of nobody's behind, 1 has each other tick on core 1. Private are addresses 0 and 1 to 0, 2 to 1. Of ports 0 and 1 tail is address 3, the cells from 4 and 7 on, head 10; of ports 2 and 3 latest is 11, the slots 12 and 13, the buffers from 14, 17, 20 and 23 on, reading 26.
func trio() api.Config {
	return api.Config{
		Parts:  []api.Part{{Core: 0, Private: 2}, {Core: 1, Private: 1}, {Core: 0, Private: 0}},
		Chans:  []api.Chan{queue(0, 1, 2, 2, top), sample(1, 2, 1, 2)},
		Frames: [2]api.Frame{frameOf(3, window(0, 0, 1), window(2, 1, 1)), frameOf(2, window(1, 0, 1))},
	}
}

// P16.1, P16.2: partitions on both cores, a queuing channel whose Boot goes round, and a sampling one, whose calls run in each other's midst: act by act all that the machine tells.
func TestActByAct(t *testing.T) {
	first := make([]uint32, 27)
	first[3], first[10] = top, top
	bell1 := []int{1}
	does := func(act, who int) done { return done{act, who, -1, 0, nil} }
	stores := func(act, who, at int, word uint32) done { return done{act, who, at, word, nil} }
	idles := func(act int) done { return does(act, -1) }
	story{
		c: trio(),
		streams: [][]api.Request{
			{creates(0), normally, sends(0, 70, 71), pokes(1, 5)},
			{creates(1), creates(2), normally, writes(2, 9), receives(1), asks(1), receives(1), peeks(2)},
			{creates(3), normally, reads(3), reads(3), asks(3)},
		},
		first: first,
		acts: []done{
			0: does(pick0, 0), does(pick1, 1), does(pick1, 1), does(pick0, 0), does(pick1, 1),
			5: does(pick0, 0), does(pick1, 1), // the Send and the Write begin
			7: does(pick0, 0), does(pick1, 1), stores(pick0, 0, 7, 2), does(pick1, 1), stores(pick0, 0, 8, 70), stores(pick1, 1, 23, 1),
			13: idles(tick), idles(pick1), // tick 1: it is nobody's time on core 1
			15: does(pick0, 2), does(pick0, 2), does(pick0, 2), does(pick0, 2), stores(pick0, 2, 26, 0), does(pick0, 2), does(pick0, 2),
			22: idles(tick), idles(pick0), // tick 2: nor on core 0
			24: stores(pick1, 1, 24, 2), stores(pick1, 1, 25, 9), stores(pick1, 1, 13, 1), stores(pick1, 1, 11, 1),
			28: does(pick1, 1), does(pick1, 1), does(pick1, 1),
			31: idles(tick), // tick 3
			32: stores(pick0, 0, 9, 71), stores(pick0, 0, 3, 0), {pick0, 0, -1, 0, bell1},
			35: idles(tick), // tick 4: 2 is entered, and 1, to whom the bell is delivered
			36: does(pick1, 1),
			37: does(pick0, 2), does(pick0, 2), stores(pick0, 2, 26, 1), does(pick0, 2), does(pick0, 2), does(pick0, 2), does(pick0, 2), does(pick0, 2),
			45: idles(pick0), // 2 has nothing left
			46: idles(tick), idles(pick0), idles(pick1), idles(tick),
			50: does(pick0, 0), stores(pick0, 0, 1, 5), idles(pick0),
			53: does(pick1, 1), does(pick1, 1), does(pick1, 1), does(pick1, 1), does(pick1, 1), stores(pick1, 1, 10, 0),
			59: does(pick1, 1), idles(tick), idles(pick1), idles(tick), does(pick1, 1), idles(pick1),
		},
		lives: []life{
			{api.Call{Part: 0, Req: creates(0), Done: true, From: 0, To: 0, T0: 0, T1: 0, Own0: 1, Own1: 1, Mark: 0, Ring: -1, Stamp: -1, Saw: -1}, -1},
			{api.Call{Part: 1, Req: creates(1), Done: true, From: 1, To: 1, T0: 0, T1: 0, Own0: 1, Own1: 1, Mark: 1, Ring: -1, Stamp: -1, Saw: -1}, -1},
			{api.Call{Part: 1, Req: creates(2), Done: true, From: 2, To: 2, T0: 0, T1: 0, Own0: 2, Own1: 2, Mark: 2, Ring: -1, Stamp: -1, Saw: -1}, -1},
			{api.Call{Part: 0, Req: normally, Done: true, From: 3, To: 3, T0: 0, T1: 0, Own0: 2, Own1: 2, Mark: 3, Ring: -1, Stamp: -1, Saw: -1}, -1},
			{api.Call{Part: 1, Req: normally, Done: true, From: 4, To: 4, T0: 0, T1: 0, Own0: 3, Own1: 3, Mark: 4, Ring: -1, Stamp: -1, Saw: -1}, -1},
			{api.Call{Part: 0, Req: sends(0, 70, 71), Done: true, From: 5, To: 34, T0: 0, T1: 3, Own0: 3, Own1: 9, Mark: 33, Ring: 34, Stamp: -1, Saw: -1}, -1},
			{api.Call{Part: 1, Req: writes(2, 9), Done: true, From: 6, To: 27, T0: 0, T1: 2, Own0: 4, Own1: 11, Mark: 27, Ring: -1, Stamp: 2, Saw: -1}, 24},
			{api.Call{Part: 2, Req: creates(3), Done: true, From: 15, To: 15, T0: 1, T1: 1, Own0: 1, Own1: 1, Mark: 15, Ring: -1, Stamp: -1, Saw: -1}, -1},
			{api.Call{Part: 2, Req: normally, Done: true, From: 16, To: 16, T0: 1, T1: 1, Own0: 2, Own1: 2, Mark: 16, Ring: -1, Stamp: -1, Saw: -1}, -1},
			{api.Call{Part: 2, Req: reads(3), Ans: code(noAction), Done: true, From: 17, To: 21, T0: 1, T1: 1, Own0: 3, Own1: 7, Mark: -1, Ring: -1, Stamp: -1, Saw: -1}, -1},
			{api.Call{Part: 1, Req: receives(1), Ans: code(notAvailable), Done: true, From: 28, To: 29, T0: 2, T1: 2, Own0: 12, Own1: 13, Mark: 29, Ring: -1, Stamp: -1, Saw: -1}, -1},
			{api.Call{Part: 1, Req: asks(1), Ans: api.Answer{Count: 1}, Done: true, From: 30, To: 36, T0: 2, T1: 4, Own0: 14, Own1: 15, Mark: 36, Ring: -1, Stamp: -1, Saw: -1}, -1},
			{api.Call{Part: 2, Req: reads(3), Ans: api.Answer{Data: []uint32{9}, Valid: true}, Done: true, From: 37, To: 43, T0: 4, T1: 4, Own0: 8, Own1: 14, Mark: -1, Ring: -1, Stamp: -1, Saw: 6}, -1},
			{api.Call{Part: 2, Req: asks(3), Ans: api.Answer{Valid: true}, Done: true, From: 44, To: 44, T0: 4, T1: 4, Own0: 15, Own1: 15, Mark: 44, Ring: -1, Stamp: -1, Saw: -1}, -1},
			{api.Call{Part: 0, Req: pokes(1, 5), Done: true, From: 50, To: 51, T0: 6, T1: 6, Own0: 10, Own1: 11, Mark: 51, Ring: -1, Stamp: -1, Saw: -1}, -1},
			{api.Call{Part: 1, Req: receives(1), Ans: data(70, 71), Done: true, From: 53, To: 58, T0: 6, T1: 6, Own0: 16, Own1: 21, Mark: 58, Ring: -1, Stamp: -1, Saw: -1}, -1},
			{api.Call{Part: 1, Req: peeks(2), Ans: data(0), Done: true, From: 59, To: 63, T0: 6, T1: 8, Own0: 22, Own1: 23, Mark: 63, Ring: -1, Stamp: -1, Saw: -1}, -1},
		},
		bellings: []api.Belling{{Part: 1, Ports: []int{1}, At: 35, Tick: 4, Own: 14}},
	}.tell(t)
}

// The chapter's examples, and P16.1, P16.2: a machine at first, of no acts; then one with a Normal is picked.
func TestExamples(t *testing.T) {
	f := machine(t, two(), stream(normally), stream(normally))
	if got := lookAtAll(t, f, 3); !reflect.DeepEqual(got, whole{state: state{words: []uint32{0, 0, 0}, places: []place{{api.Standing{Part: 0}, 0}, {api.Standing{Part: 1}, 0}, {api.Standing{}, -1}}}}) {
		t.Errorf("%+v", got)
	}
	if f.Run() != 0 || !f.Do(pick0) {
		t.Error("isn't done")
	}
	want := []api.Call{{Req: normally, Done: true, Own0: 1, Own1: 1, Ring: -1, Stamp: -1, Saw: -1}}
	if got := calls(t, f); !reflect.DeepEqual(got, want) {
		t.Errorf("%+v", got)
	}
	if got := bellings(t, f); len(got) > 0 {
		t.Errorf("%+v", got)
	}
	if s, own, is := f.Standing(0); !s.Normal || own != 1 || !is {
		t.Error(s, own, is)
	}
	if s, own, is := f.Standing(1); s.Normal || own != 0 || !is {
		t.Error(s, own, is)
	}
	if now, moment := f.Now(); now != 0 || moment != 1 {
		t.Error(now, moment)
	}
	if !f.Do(pick1) {
		t.Error("isn't done")
	}
	want = append(want, api.Call{Part: 1, Req: normally, Done: true, From: 1, To: 1, Own0: 1, Own1: 1, Mark: 1, Ring: -1, Stamp: -1, Saw: -1})
	if got := calls(t, f); !reflect.DeepEqual(got, want) {
		t.Errorf("%+v", got)
	}
}

// ends tells a fault unless the calls of a partition end with these own steps, and these answers.
func ends(t *testing.T, f *Fabric, p int, own []int, want ...api.Answer) {
	t.Helper()
	var got []int
	for _, x := range calls(t, f) {
		if x.Part == p {
			got = append(got, x.Own1)
		}
	}
	if !slices.Equal(got, own) {
		t.Errorf("own steps of %d: %v instead of %v", p, got, own)
	}
	if got := answers(t, f, p); !reflect.DeepEqual(got, want) {
		t.Errorf("of %d: %+v instead of %+v", p, got, want)
	}
}

// The document's examples of the whole that hang on this layer: 1 to 5.
func TestExamplesOfChannels(t *testing.T) {
	c := two(queue(0, 1, 1, 1, 0))
	from, to := stream(creates(0), normally, sends(0, 7)), stream(creates(1), normally, receives(1))
	f := machine(t, c, from, to)
	f.Run(slices.Concat(times(8, pick0), times(7, pick1))...)
	ends(t, f, 0, []int{1, 2, 8}, code(ok), code(ok), code(ok))
	ends(t, f, 1, []int{1, 2, 7}, code(ok), code(ok), data(7))
	if got := f.Pending(); !slices.Equal(got, []int{1}) {
		t.Error(got)
	}
	f.Do(tick)
	if got := bellings(t, f); !reflect.DeepEqual(got, []api.Belling{{Part: 1, Ports: []int{1}, At: 15, Tick: 1, Own: 7}}) || len(f.Pending()) > 0 {
		t.Error(got, f.Pending())
	}

	f = machine(t, c, from, to)
	f.Run(slices.Concat(times(7, pick1), times(8, pick0))...)
	ends(t, f, 1, []int{1, 2, 4}, code(ok), code(ok), code(notAvailable))
	ends(t, f, 0, []int{1, 2, 8}, code(ok), code(ok), code(ok))

	f = machine(t, c, append(slices.Clone(from), sends(0, 8), asks(0)), to)
	f.Run(times(20, pick0)...)
	ends(t, f, 0, []int{1, 2, 8, 10, 12}, code(ok), code(ok), code(ok), code(notAvailable), api.Answer{Count: 1})

	for _, late := range []int{8, 9} {
		f = machine(t, two(sample(0, 1, 2, 3)), stream(creates(0), normally, writes(0, 8, 9)), stream(creates(1), normally, reads(1), reads(1)))
		f.Run(slices.Concat(times(7, pick1), times(5, tick), times(11, pick0), times(late-5, tick), times(8, pick1))...)
		ends(t, f, 0, []int{1, 2, 11}, code(ok), code(ok), code(ok))
		ends(t, f, 1, []int{1, 2, 7, 15}, code(ok), code(ok), code(noAction), api.Answer{Data: []uint32{8, 9}, Valid: late == 8})
		l := calls(t, f)
		if x, y := l[5], l[6]; x.Stamp != 5 || x.T0 != 5 || y.Saw != 5 || y.T1 != late || l[2].Saw != -1 {
			t.Errorf("%+v, %+v, %+v", l[2], x, y)
		}
	}
}

// Likewise: 6 to 8 and 10.
func TestExamplesOfRefusals(t *testing.T) {
	c := two(queue(0, 1, 1, 1, 0))
	f := machine(t, c, stream(pokes(1, 6), peeks(1), peeks(2)))
	f.Run(times(5, pick0)...)
	ends(t, f, 0, []int{2, 4, 5}, code(ok), data(6), code(accessFault))

	f = machine(t, c, stream(sends(0, 7), creates(1), creates(0), creates(0), sends(0, 7)))
	f.Run(times(5, pick0)...)
	ends(t, f, 0, []int{1, 2, 3, 4, 5}, code(invalidParam), code(invalidConfig), code(ok), code(noAction), code(invalidMode))

	c.Chans[0].Depth = 3
	if f, k := New(c); f != nil || k != 9 {
		t.Error(f, k)
	}
	c.Chans[0].Depth, c.Frames[1].Windows = 1, nil
	if f, k := New(c); f != nil || k != 17 {
		t.Error(f, k)
	}

	c = two(queue(0, 1, 1, 1, 0))
	for ahead, want := range []api.Answer{code(notAvailable), data(7)} {
		f = machine(t, c, stream(creates(0), normally, sends(0, 7)), stream(creates(1), normally, receives(1)))
		f.Run(slices.Concat(times(6, pick0), times(3, pick1))...)
		f.Run([][]int{{pick1, pick0}, {pick0, pick1}}[ahead]...) // the load of tail, and its store
		f.Run(times(4, pick1)...)
		if got := answers(t, f, 1)[2]; !reflect.DeepEqual(got, want) {
			t.Errorf("%+v instead of %+v", got, want)
		}
	}
}

// P16.1: no machine of a configuration that isn't accepted, but its first defect, whatever the streams are.
func TestNotAccepted(t *testing.T) {
	type wrong func(c *api.Config)
	part := func(x api.Part) wrong { return func(c *api.Config) { c.Parts[1] = x } }
	channel := func(x api.Chan) wrong { return func(c *api.Config) { c.Chans[1] = x } }
	frame := func(x api.Frame) wrong { return func(c *api.Config) { c.Frames[1] = x } }
	all := func(l ...wrong) wrong {
		return func(c *api.Config) {
			for _, x := range l {
				x(c)
			}
		}
	}
	far := window(1, math.MaxInt, math.MaxInt)
	for _, x := range []struct {
		first int
		wrong wrong
	}{
		{1, func(c *api.Config) { *c = api.Config{} }},
		{1, func(c *api.Config) { c.Parts = nil }},
		{1, func(c *api.Config) { c.Parts = make([]api.Part, 7) }},
		{2, part(api.Part{Core: 2})}, {2, part(api.Part{Core: -1})}, {2, part(api.Part{Core: math.MinInt, Private: -1})},
		{3, part(api.Part{Core: 1, Private: -1})}, {3, part(api.Part{Core: 1, Private: 65})}, {3, part(api.Part{Core: 1, Private: math.MaxInt})},
		{4, func(c *api.Config) { c.Chans = slices.Repeat(c.Chans[:1], 9) }},
		{5, channel(api.Chan{})}, {5, channel(api.Chan{Kind: 3, To: 1, Words: 1})}, {5, channel(api.Chan{Kind: -1, From: -1})},
		{6, channel(sample(-1, 1, 1, 0))}, {6, channel(sample(0, 2, 1, 0))}, {6, channel(queue(math.MaxInt, math.MinInt, 0, 0, 0))},
		{7, channel(sample(1, 1, 1, 0))}, {7, channel(queue(0, 0, 0, 0, 0))},
		{8, channel(sample(0, 1, 0, 0))}, {8, channel(sample(0, 1, 17, 0))}, {8, channel(queue(0, 1, -1, 0, 0))}, {8, channel(queue(0, 1, math.MaxInt, math.MaxInt, 0))},
		{9, channel(queue(0, 1, 1, 0, 0))}, {9, channel(queue(0, 1, 1, 3, 0))}, {9, channel(queue(0, 1, 1, 16, 0))}, {9, channel(api.Chan{Kind: sampling, To: 1, Words: 1, Depth: 1})},
		{10, channel(sample(0, 1, 1, -1))}, {10, channel(sample(0, 1, 1, 1<<20+1))}, {10, channel(api.Chan{Kind: queuing, To: 1, Words: 1, Depth: 1, Period: 1})},
		{11, channel(api.Chan{Kind: sampling, To: 1, Words: 1, Boot: 1})},
		{12, frame(frameOf(0))}, {12, frame(frameOf(65, window(1, 0, 1)))}, {12, frame(frameOf(-1))}, {12, frame(frameOf(math.MaxInt, far))},
		{13, frame(frameOf(64, slices.Repeat([]api.Window{window(1, 0, 1)}, 17)...))},
		{14, frame(frameOf(1, window(0, 0, 1)))}, {14, frame(frameOf(1, window(2, 0, 1)))}, {14, frame(frameOf(1, window(-1, 0, 1)))},
		{15, frame(frameOf(4, window(1, -1, 1)))}, {15, frame(frameOf(4, window(1, 0, 0)))}, {15, frame(frameOf(4, window(1, 3, 2)))}, {15, frame(frameOf(64, far))},
		{16, frame(frameOf(4, window(1, 0, 2), window(1, 1, 1)))}, {16, frame(frameOf(4, window(1, 2, 1), window(1, 0, 1)))},
		{17, frame(frameOf(4))}, {17, func(c *api.Config) { c.Parts = append(c.Parts, api.Part{}) }},
		{2, all(part(api.Part{Core: 3}), channel(api.Chan{}), frame(frameOf(0)))},
		{5, all(channel(api.Chan{}), frame(frameOf(0)))},
		{3, all(frame(frameOf(4)), part(api.Part{Core: 1, Private: 99}))},
		{9, all(channel(queue(0, 1, 1, 5, 0)), frame(frameOf(4)))},
	} {
		for _, streams := range [][][]api.Request{nil, {}, {{creates(0)}, {creates(1), normally}}, {nil, nil, {normally}}} {
			c := two(queue(0, 1, 3, 2, 0), sample(0, 1, 2, 3))
			machine(t, c, streams...)
			x.wrong(&c)
			if f, k := New(c, streams...); f != nil || k != x.first {
				t.Errorf("%v, %d instead of %d of %+v", f, k, x.first, c)
			}
			if k := defect.First(c); k != x.first {
				t.Error(k, x.first)
			}
		}
	}
}

// P16.1: a machine's memory has the layout's size, all 0, but tail and head of each queuing channel; its bells aren't pending, its clock is at 0, its partitions are at first.
func TestAtFirst(t *testing.T) {
	for _, boot := range []uint32{0, 1, 77, 1<<31 - 1, 1 << 31, top - 8, top - 1, top} {
		c := api.Config{
			Parts: []api.Part{{Core: 1, Private: 3}, {Core: 0}, {Core: 0, Private: 64}},
			// From 67 on: 4 words, of which the first and the last one are tail and head; 16 words; 137 + 1 words; 76; 6.
			Chans: []api.Chan{queue(1, 0, 1, 1, boot), sample(1, 0, 1, 5), queue(2, 0, 16, 8, boot+1), sample(0, 2, 16, 1<<20), queue(0, 1, 1, 2, boot-1)},
			Frames: [2]api.Frame{
				frameOf(9, window(2, 1, 2), window(1, 8, 1)),
				frameOf(4, window(0, 2, 2)),
			},
		}
		want := state{words: make([]uint32, 67+4+16+138+76+6)}
		want.words[67], want.words[70] = boot, boot
		want.words[87], want.words[224] = boot+1, boot+1
		want.words[301], want.words[306] = boot-1, boot-1
		for p := range c.Parts {
			want.places = append(want.places, place{api.Standing{Part: p}, 0})
		}
		for _, streams := range [][][]api.Request{nil, {{normally}, {creates(0)}, {pokes(4, 4)}}} {
			f := machine(t, c, streams...)
			if got := lookAtAll(t, f, 3); !reflect.DeepEqual(got, whole{state: want}) {
				t.Errorf("%+v instead of %+v", got, want)
			}
		}
	}
	// Without channels and private words there is no memory.
	c := two()
	c.Parts[0].Private, c.Parts[1].Private = 0, 0
	if got := machine(t, c).Words(); len(got) != 0 {
		t.Error(got)
	}
}

// P16.1: both sides of a queue begin with its Boot, near 2^32 too: messages go through it beyond there.
func TestBoot(t *testing.T) {
	for _, boot := range []uint32{0, 5, 1<<31 - 2, top - 3, top - 1, top} {
		c := two(queue(0, 1, 1, 2, boot))
		from, to := stream(creates(0), normally), stream(creates(1), normally)
		for n := range uint32(9) {
			from, to = append(from, sends(0, n)), append(to, receives(1))
		}
		f := machine(t, c, append(from, asks(0)), append(to, asks(1)))
		f.Run(pick0, pick0, pick1, pick1)
		for n := range uint32(9) {
			f.Run(slices.Concat(times(6, pick0), times(5, pick1))...)
			l := calls(t, f)
			if x, y := l[4+2*n], l[5+2*n]; x.Ans.Code != ok || !reflect.DeepEqual(y.Ans, data(n)) {
				t.Errorf("%d: %+v, %+v", boot, x, y)
			}
			// Tail is at 3, head behind two cells.
			if w := f.Words(); w[3] != boot+n+1 || w[8] != boot+n+1 {
				t.Error(boot, n, w)
			}
		}
		f.Run(pick0, pick0, pick1, pick1)
		if x, y := answers(t, f, 0)[11], answers(t, f, 1)[11]; x.Count != 0 || y.Count != 0 {
			t.Error(boot, x, y)
		}
	}
}

// P16.1, R2: of numbers that no act has: false, and nothing, not even a moment; Run passes them over.
func TestNoSuchAct(t *testing.T) {
	c := trio()
	streams := [][]api.Request{{creates(0), normally, sends(0, 1)}, {creates(1), normally, receives(1)}, {creates(3)}}
	script := slices.Concat(times(5, pick0), times(4, pick1), []int{tick}, times(2, pick0), []int{tick, tick}, times(6, pick0), []int{tick}, times(6, pick1))
	f := machine(t, c, streams...)
	for _, act := range script {
		before := lookAtAll(t, f, 3)
		for _, no := range noActs {
			if f.Do(no) {
				t.Fatal("does", no)
			}
		}
		if got := f.Run(noActs...); got != 0 {
			t.Fatal(got)
		}
		if got := lookAtAll(t, f, 3); !reflect.DeepEqual(got, before) {
			t.Fatalf("%+v instead of %+v", got, before)
		}
		if !f.Do(act) {
			t.Fatal("doesn't do", act)
		}
	}
	// The same script in one go, one of those numbers behind each act.
	g := machine(t, c, streams...)
	var acts []int
	for i, act := range script {
		acts = append(acts, noActs[i%len(noActs)], act)
	}
	if got := g.Run(append(acts, -1, 3)...); got != len(script) {
		t.Error(got)
	}
	if got, want := lookAtAll(t, g, 3), lookAtAll(t, f, 3); !reflect.DeepEqual(got, want) || want.moment != len(script) || len(want.calls) == 0 || len(want.bellings) == 0 {
		t.Errorf("%+v instead of %+v", got, want)
	}
}

// P16.1: Run does acts one behind the other, and tells how many; of none it does nothing.
func TestRun(t *testing.T) {
	f := machine(t, two(), stream(normally, pokes(0, 3)), stream(normally))
	for i, x := range []struct {
		acts         []int
		done         int
		tick, moment int
		own0, own1   int
	}{
		{nil, 0, 0, 0, 0, 0}, {[]int{}, 0, 0, 0, 0, 0}, {[]int{tick}, 1, 1, 1, 0, 0}, {[]int{pick0, 7, pick1}, 2, 1, 3, 1, 1},
		{[]int{tick, -1, tick, pick0, 3, pick0, pick0, pick1}, 6, 3, 9, 3, 1}, {[]int{9, 9}, 0, 3, 9, 3, 1}, {times(500, tick), 500, 503, 509, 3, 1},
	} {
		if got := f.Run(x.acts...); got != x.done {
			t.Error(i, got)
		}
		if now, moment := f.Now(); now != x.tick || moment != x.moment {
			t.Error(i, now, moment)
		}
		if s := look(f, 2); s.places[0].own != x.own0 || s.places[1].own != x.own1 {
			t.Error(i, s)
		}
	}
}

// P16.1: a pick of a core on which it is nobody's time, and of a partition that has nothing left to do: only the moment goes on.
func TestNothingIsDone(t *testing.T) {
	c := two(queue(0, 1, 1, 1, 4))
	c.Frames = [2]api.Frame{frameOf(3, window(0, 1, 1)), frameOf(2, window(1, 0, 1))}
	f := machine(t, c, stream(normally), stream(creates(1)))
	idle := func(act int) {
		t.Helper()
		want := lookAtAll(t, f, 2)
		want.moment++
		if !f.Do(act) {
			t.Error("isn't done:", act)
		}
		if got := lookAtAll(t, f, 2); !reflect.DeepEqual(got, want) {
			t.Errorf("%+v instead of %+v", got, want)
		}
	}
	idle(pick0) // it is nobody's time
	idle(pick0)
	f.Do(pick1)
	idle(pick1) // nothing is left
	f.Do(tick)
	idle(pick1)
	f.Do(pick0)
	idle(pick0)
	idle(pick0)
	f.Do(tick)
	idle(pick0)
	idle(pick1)
	if got := calls(t, f); len(got) != 2 || got[0].From != 2 || got[1].From != 6 || got[1].T0 != 1 {
		t.Errorf("%+v", got)
	}
}

// P16.1: fewer streams than partitions, more, and empty ones: partitions beyond have nothing to do, streams beyond count for nothing.
func TestStreams(t *testing.T) {
	c := trio()
	one := stream(normally, peeks(0))
	for _, x := range []struct {
		streams [][]api.Request
		own     []int
	}{
		{nil, []int{0, 0, 0}}, {[][]api.Request{}, []int{0, 0, 0}}, {[][]api.Request{nil}, []int{0, 0, 0}}, {[][]api.Request{{}, {}, {}}, []int{0, 0, 0}},
		{[][]api.Request{one}, []int{3, 0, 0}}, {[][]api.Request{one, one[:1]}, []int{3, 1, 0}}, {[][]api.Request{nil, one[:1]}, []int{0, 1, 0}}, {[][]api.Request{{}, nil, one[:1]}, []int{0, 0, 1}},
		{[][]api.Request{one, one[:1], one[:1]}, []int{3, 1, 1}}, {[][]api.Request{nil, nil, nil, one}, []int{0, 0, 0}},
		{[][]api.Request{one[:1], {}, one[:1], one, one, one, one}, []int{1, 0, 1}}, {slices.Repeat([][]api.Request{one[:1]}, 100), []int{1, 1, 1}},
	} {
		f := machine(t, c, x.streams...)
		for range 12 {
			f.Run(pick0, pick1, pick1, pick0, pick0, tick)
		}
		s, n := look(f, 4), 0
		for p, want := range x.own {
			if s.places[p].own != want {
				t.Error(p, s.places, want)
			}
		}
		if s.places[3].own != -1 {
			t.Error("a partition that there isn't")
		}
		for _, y := range calls(t, f) {
			if n++; !y.Done || y.Part > 2 {
				t.Errorf("%+v", y)
			}
		}
		if s.moment != 72 || s.tick != 12 || n != min(x.own[0], 2)+x.own[1]+x.own[2] {
			t.Error(s, n)
		}
	}
}

// P16.2, R2: of a number that no partition has, below and above: zeroes and false.
func TestNoSuchPartition(t *testing.T) {
	f := machine(t, trio(), stream(creates(0), normally), stream(normally), stream(creates(3), normally))
	for range 8 {
		f.Run(pick0, pick1, tick)
		for _, p := range []int{-1, -2, -3, -6, math.MinInt32, math.MinInt, -1 << 32, 3, 4, 5, 6, 7, 64, 256, 1 << 32, 1<<32 + 1, math.MaxInt32, math.MaxInt} {
			if s, own, is := f.Standing(p); !reflect.DeepEqual(bareStanding(s), api.Standing{}) || own != 0 || is {
				t.Error(p, s, own, is)
			}
		}
		for p := range 3 {
			if s, _, is := f.Standing(p); s.Part != p || !is {
				t.Error(p, s, is)
			}
		}
	}
}
