package model

import (
	"reflect"
	"slices"
	"testing"

	"porthole/api"
	"porthole/defect"
)

// past is a call that had its effect, and what it came to.
type past struct {
	x   api.Call
	ans api.Answer
}

// rung is a bell that was rung, or, if its port is below 0, a delivery to a partition.
type rung struct{ port, to int }

// twin is a model by the chapter's words: it remembers all that was, and makes up of that each time anew what there is.
type twin struct {
	c     api.Config
	past  []past
	bells []rung
}

// fineOf are the calls of a kind that were answered OK.
func (y *twin) fineOf(op int) (l []api.Call) {
	for _, x := range y.past {
		if x.x.Req.Op == op && x.ans.Code == ok {
			l = append(l, x.x)
		}
	}
	return l
}

func (y *twin) standing(p int) api.Standing {
	s := api.Standing{Part: p}
	for _, x := range y.fineOf(create) {
		if x.Part == p {
			s.Made = append(s.Made, x.Req.Port)
		}
	}
	for _, x := range y.fineOf(normal) {
		s.Normal = s.Normal || x.Part == p
	}
	for i, x := range y.past {
		// Of Reads that found a valid message one behind the other the first one tells where the port stands among the others.
		if x.x.Part == p && x.x.Req.Op == read && x.ans.Valid && y.firstValid(i) && y.stays(i) {
			s.Valid = append(s.Valid, x.x.Req.Port)
		}
	}
	return s
}

// firstValid tells of a Read that found a valid message whether the one ahead of it, of the same port, didn't.
func (y *twin) firstValid(i int) bool {
	for k := i - 1; k >= 0; k-- {
		if y.readsAlike(k, i) {
			return !y.past[k].ans.Valid
		}
	}
	return true
}

// stays tells of such a one whether all behind it, of the same port, did too.
func (y *twin) stays(i int) bool {
	for k := i; k < len(y.past); k++ {
		if y.readsAlike(k, i) && !y.past[k].ans.Valid {
			return false
		}
	}
	return true
}

// readsAlike tells whether two calls are Reads of one port, by one partition.
func (y *twin) readsAlike(k, i int) bool {
	a, b := y.past[k].x, y.past[i].x
	return a.Req.Op == read && b.Req.Op == read && a.Part == b.Part && a.Req.Port == b.Req.Port
}

// queued are the messages in the queue that begins at a port: all but as many of those that were sent as were received.
func (y *twin) queued(source int) (l [][]uint32) {
	for _, x := range y.fineOf(send) {
		if x.Req.Port == source {
			l = append(l, x.Req.Data)
		}
	}
	for _, x := range y.fineOf(receive) {
		if x.Req.Port == source+1 {
			l = l[1:]
		}
	}
	return l
}

// word is what was poked last at an address.
func (y *twin) word(at uint64) uint32 {
	l := y.fineOf(poke)
	for _, x := range slices.Backward(l) {
		if x.Req.Addr == at {
			return x.Req.Data[0]
		}
	}
	return 0
}

// refused is layer 10's code, its rows one by one.
func (y *twin) refused(p int, r api.Request) api.Errno {
	if p < 0 || p >= len(y.c.Parts) {
		return invalidConfig
	}
	if r.Op < create || r.Op > poke {
		return invalidParam
	}
	s := y.standing(p)
	mine, made := slices.Contains(owned(y.c, p), r.Port), slices.Contains(s.Made, r.Port)
	switch r.Op {
	case create:
		if !mine {
			return invalidConfig
		}
		if made {
			return noAction
		}
	case peek, poke:
		if r.Op == poke && len(r.Data) != 1 {
			return invalidParam
		}
		from := 0
		for _, x := range y.c.Parts[:p] {
			from += x.Private
		}
		if r.Addr < uint64(from) || r.Addr >= uint64(from+y.c.Parts[p].Private) {
			return accessFault
		}
		return ok
	case write, read, send, receive, status:
		if !mine || !made {
			return invalidParam
		}
		if !s.Normal {
			return invalidMode
		}
		return y.unfit(r)
	}
	if s.Normal {
		return invalidMode
	}
	return ok
}

// unfit is the code by which a request of a port that the partition has is refused.
func (y *twin) unfit(r api.Request) api.Errno {
	ch := y.c.Chans[r.Port/2]
	if fits := [][]int{{write, status}, {read, status}, {send, status}, {receive, status}}[2*(ch.Kind-sampling)+r.Port%2]; !slices.Contains(fits, r.Op) {
		return invalidMode
	}
	if r.Op == write || r.Op == send {
		if len(r.Data) == 0 {
			return invalidParam
		}
		if len(r.Data) > ch.Words {
			return invalidConfig
		}
	}
	return ok
}

// answer is what a call comes to.
func (y *twin) answer(x api.Call) api.Answer {
	r := x.Req
	if e := y.refused(x.Part, r); e != ok {
		return code(e)
	}
	switch r.Op {
	case read:
		for _, w := range slices.Backward(y.fineOf(write)) {
			if w.Req.Port == r.Port-1 {
				return api.Answer{Data: w.Req.Data, Valid: x.T1 <= w.Stamp+y.c.Chans[r.Port/2].Period}
			}
		}
		return code(noAction)
	case send:
		if len(y.queued(r.Port)) == y.c.Chans[r.Port/2].Depth {
			return code(notAvailable)
		}
	case receive:
		l := y.queued(r.Port - 1)
		if len(l) == 0 {
			return code(notAvailable)
		}
		return words(l[0]...)
	case status:
		if y.c.Chans[r.Port/2].Kind == queuing {
			return counts(len(y.queued(r.Port - r.Port%2)))
		}
		return api.Answer{Valid: slices.Contains(y.standing(x.Part).Valid, r.Port)}
	case peek:
		return words(y.word(r.Addr))
	}
	return fine
}

func (y *twin) do(x api.Call) api.Answer {
	ans := y.answer(x)
	x.Req.Data = slices.Clone(x.Req.Data)
	y.past = append(y.past, past{x, ans})
	ans.Data = slices.Clone(ans.Data)
	return bareAnswer(ans)
}

func (y *twin) ring(x api.Call) bool {
	is := x.Req.Op == send && x.Req.Port >= 0 && x.Req.Port < 2*len(y.c.Chans)
	if is {
		y.bells = append(y.bells, rung{port: x.Req.Port | 1})
	}
	return is
}

func (y *twin) deliver(p int) (l []int) {
	for k, ch := range y.c.Chans {
		if ch.To == p && y.pending(2*k+1, p) {
			l = append(l, 2*k+1)
		}
	}
	y.bells = append(y.bells, rung{-1, p})
	return l
}

// pending tells of a port of a partition whether it was rung behind the last delivery.
func (y *twin) pending(port, p int) bool {
	for _, x := range slices.Backward(y.bells) {
		if x.port == port {
			return true
		}
		if x.port < 0 && x.to == p {
			return false
		}
	}
	return false
}

// rolledConfig is any configuration that is accepted.
func rolledConfig(roll dicer) api.Config {
	var private []int
	for range 1 + roll(6) {
		private = append(private, []int{0, 1, 3, 64}[roll(4)])
	}
	c := config(private)
	for range roll(9) * min(1, len(private)-1) {
		from := roll(len(private))
		to := (from + 1 + roll(len(private)-1)) % len(private)
		words := []int{1, 2, 1 + roll(maxWords), maxWords}[roll(4)]
		if roll(2) == 0 {
			c.Chans = append(c.Chans, queue(from, to, words, []int{1, 2, 4, 8}[roll(4)]))
		} else {
			c.Chans = append(c.Chans, sample(from, to, words, []int{0, roll(9), roll(99), 1 << 20}[roll(4)]))
		}
	}
	return c
}

// rolledRequest is any request, most often one that isn't refused, if the partition has made the port.
func rolledRequest(roll dicer, c api.Config, p int) api.Request {
	ports := owned(c, p)
	at := 0
	for _, x := range c.Parts[:p] {
		at += x.Private
	}
	r := api.Request{Op: roll(11), Port: roll(2*len(c.Chans)+2) - 1, Addr: uint64(at + roll(c.Parts[p].Private+1)), Data: list(uint32(roll(1<<20)), []int{0, 1, 1, roll(18)}[roll(4)])}
	if r.Op == poke && roll(3) == 0 {
		r.Data = []uint32{0}
	}
	if len(ports) == 0 || roll(6) == 0 {
		return r
	}
	r.Port = ports[roll(len(ports))]
	ch := c.Chans[r.Port/2]
	if r.Op != peek && r.Op != poke && roll(12) > 0 {
		r.Op = []int{write, read, send, receive}[2*(ch.Kind-sampling)+r.Port%2]
		if roll(4) == 0 {
			r.Op = status
		}
	}
	if r.Op == write || r.Op == send {
		r.Data = list(uint32(roll(1<<20)), 1+roll(ch.Words))
	}
	return r
}

// rolledCall is any call at about a tick.
func rolledCall(roll dicer, c api.Config, tick int) api.Call {
	p := roll(len(c.Parts))
	x := by(p, rolledRequest(roll, c, p))
	x.Stamp, x.T1 = tick-roll(9), tick+roll(9)
	if roll(30) == 0 {
		x.Part = []int{-1, len(c.Parts), far[roll(len(far))], roll(len(c.Parts))}[roll(4)]
	}
	return x
}

// begun are the calls by which partitions make most of their ports, and most of them begin normal work, in any order of the partitions.
func begun(roll dicer, c api.Config) (l []api.Call) {
	for _, p := range roll.shuffled(len(c.Parts)) {
		ports := owned(c, p)
		for _, i := range roll.shuffled(len(ports)) {
			if roll(12) > 0 {
				l = append(l, by(p, creates(ports[i])))
			}
		}
		if roll(8) > 0 {
			l = append(l, by(p, normally))
		}
	}
	return l
}

// what tells of a call what came of it, for counting.
func what(x api.Call, ans api.Answer) string {
	if x.Req.Op < create || x.Req.Op > poke {
		return "refused"
	}
	kind := []string{"", "create", "normal", "write", "read", "send", "receive", "status", "peek", "poke"}[x.Req.Op]
	switch {
	case ans.Code == ok && ans.Valid:
		return kind + " valid"
	case ans.Code == ok && ans.Count > 0:
		return kind + " counts"
	case ans.Code == ok && x.Req.Op == peek && ans.Data[0] != 0:
		return kind + " of a word"
	case ans.Code == ok:
		return kind
	case ans.Code == noAction || ans.Code == notAvailable:
		return kind + " in vain"
	}
	return "refused"
}

// P18.1, P18.2: any configurations, calls, rings and deliveries: the model does what its twin does, and its partitions stand where the twin's do.
func TestAsItsTwin(t *testing.T) {
	roll := dice()
	count := map[string]int{}
	for range 250 {
		c := rolledConfig(roll)
		if !defect.Accepts(c) {
			t.Fatal(slices.Collect(defect.All(c)))
		}
		m, y := New(c), &twin{c: c}
		tick, first := 1+roll(50), begun(roll, c)
		for i := range 150 {
			tick += roll(3)
			x := rolledCall(roll, c, tick)
			if i < len(first) {
				x = first[i]
			}
			got, want := bareAnswer(m.Do(x)), y.do(x)
			if !reflect.DeepEqual(got, want) {
				t.Fatalf("%+v instead of %+v: partition %d's %+v, Stamp %d, T1 %d", got, want, x.Part, x.Req, x.Stamp, x.T1)
			}
			count[what(x, want)]++
			if roll(2) == 0 || x.Req.Op == send {
				if got, want := m.Ring(x), y.ring(x); got != want {
					t.Fatalf("%v, ring of %+v", got, x)
				}
			}
			if p := roll(len(c.Parts)+2) - 1; roll(6) == 0 {
				got, want := none(m.Deliver(p)), y.deliver(p)
				if !slices.Equal(got, want) {
					t.Fatalf("%v instead of %v are delivered to %d", got, want, p)
				}
				count["delivered"] += min(1, len(want))
				count["delivered together"] += min(1, len(want)/2)
			}
			standsAsItsTwin(t, c, m, y)
		}
		if got, want := everything(c, m), y.everything(); !reflect.DeepEqual(got, want) {
			t.Fatalf("%+v instead of %+v", got, want)
		}
	}
	for x, least := range map[string]int{
		"refused": 500, "create": 500, "create in vain": 20, "normal": 200, "write": 200, "read valid": 100, "read": 50, "read in vain": 50, "send": 200, "send in vain": 50, "receive": 100, "receive in vain": 50,
		"status": 50, "status valid": 5, "status counts": 20, "peek": 50, "peek of a word": 50, "poke": 50, "delivered": 200, "delivered together": 10,
	} {
		if count[x] < least {
			t.Error(x, count[x], least)
		}
	}
	if t.Failed() {
		t.Log(count)
	}
}

// standsAsItsTwin tells a fault unless all partitions, and no others, stand where the twin's do.
func standsAsItsTwin(t *testing.T, c api.Config, m *Model, y *twin) {
	t.Helper()
	for p := -1; p <= len(c.Parts); p++ {
		var want api.Standing
		there := p >= 0 && p < len(c.Parts)
		if there {
			want = y.standing(p)
		}
		if got, is := m.Standing(p); is != there || !reflect.DeepEqual(bareStanding(got), want) {
			t.Fatalf("%+v, %v instead of %+v", got, is, want)
		}
	}
}

// everything is the twin's state, asked for as the model's is.
func (y *twin) everything() state {
	var s state
	do := func(x api.Call) api.Answer {
		ans := y.do(x)
		s.answers = append(s.answers, ans)
		return ans
	}
	for p := -1; p <= len(y.c.Parts); p++ {
		is := p >= 0 && p < len(y.c.Parts)
		var x api.Standing
		if is {
			x = y.standing(p)
		}
		s.standings, s.is, s.pending = append(s.standings, x), append(s.is, is), append(s.pending, y.deliver(p))
	}
	at := uint64(0)
	for p, part := range y.c.Parts {
		for range part.Private {
			do(by(p, peeks(at)))
			at++
		}
		for _, port := range owned(y.c, p) {
			do(by(p, creates(port)))
		}
		do(by(p, normally))
	}
	for p := range y.c.Parts {
		for _, port := range owned(y.c, p) {
			do(by(p, asks(port)))
		}
	}
	for k, ch := range y.c.Chans {
		for n := 0; ch.Kind == queuing && n <= ch.Depth && do(by(ch.To, receives(2*k+1))).Code == ok; n++ {
		}
		if ch.Kind == sampling && do(until(ch.To, -1, reads(2*k+1))).Code == ok {
			l := slices.DeleteFunc(y.fineOf(write), func(w api.Call) bool { return w.Req.Port != 2*k })
			s.old = append(s.old, max(0, l[len(l)-1].Stamp+ch.Period+1))
		}
	}
	return s
}
