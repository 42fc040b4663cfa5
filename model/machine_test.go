package model

import (
	"reflect"
	"slices"
	"testing"

	"porthole/api"
	"porthole/fabric"
	"porthole/hist"
	"porthole/layout"
)

// thing is an effect, a ring or a delivery of a machine, by its place; those of one moment come by their ranks.
type thing struct{ moment, rank, of int }

const (
	effect = iota
	ring
	delivery
	late // an effect that is right behind a moment
)

// things are those of calls and deliveries, in the order in which they could have been at once.
func things(calls []api.Call, bellings []api.Belling) []thing {
	var l []thing
	for i, x := range calls {
		at, behind, is := hist.Place(calls, i)
		if is && behind {
			l = append(l, thing{at, late, i})
		} else if is {
			l = append(l, thing{at, effect, i})
		}
		if x.Ring >= 0 {
			l = append(l, thing{x.Ring, ring, i})
		}
	}
	for i, x := range bellings {
		l = append(l, thing{x.At, delivery, i})
	}
	slices.SortStableFunc(l, func(a, b thing) int {
		if a.moment != b.moment {
			return a.moment - b.moment
		}
		return a.rank - b.rank
	})
	return l
}

// told are all that a machine tells of calls and deliveries.
func told(f *fabric.Fabric) (calls []api.Call, bellings []api.Belling) {
	for _, x := range f.Calls() {
		calls = append(calls, x)
	}
	for _, x := range f.Bellings() {
		bellings = append(bellings, x)
	}
	return calls, bellings
}

// asTheMachine tells a fault unless the model comes at once to all that the machine came to step by step.
func asTheMachine(t *testing.T, c api.Config, f *fabric.Fabric) []api.Call {
	t.Helper()
	m := New(c)
	calls, bellings := told(f)
	for _, x := range things(calls, bellings) {
		switch x.rank {
		case ring:
			if !m.Ring(calls[x.of]) {
				t.Fatalf("no ring of %+v", calls[x.of])
			}
		case delivery:
			if got, want := m.Deliver(bellings[x.of].Part), bellings[x.of].Ports; !slices.Equal(got, want) {
				t.Fatalf("%v instead of %+v", got, bellings[x.of])
			}
		default:
			if got := m.Do(calls[x.of]); calls[x.of].Done && !reflect.DeepEqual(bareAnswer(got), bareAnswer(calls[x.of].Ans)) {
				t.Fatalf("%+v instead of %+v", got, calls[x.of])
			}
		}
	}
	asInTheEnd(t, c, f, m, calls)
	return calls
}

// asInTheEnd tells a fault unless bells, private words and standings are the machine's. A partition with a call under way may stand further in the model: the call has had its effect.
func asInTheEnd(t *testing.T, c api.Config, f *fabric.Fabric, m *Model, calls []api.Call) {
	t.Helper()
	open := map[int]bool{}
	for _, x := range calls {
		open[x.Part] = !x.Done
	}
	memory := f.Words()
	var pending []int
	for p := range c.Parts {
		pending = append(pending, m.Deliver(p)...)
		want, _, _ := f.Standing(p)
		if got, is := m.Standing(p); !is || !open[p] && !reflect.DeepEqual(bareStanding(got), bareStanding(want)) {
			t.Fatalf("%+v instead of %+v", got, want)
		}
		span := layout.Private(c, p)
		for at := span.From; at < span.From+span.Size; at++ {
			if got := m.Do(by(p, peeks(uint64(at)))); !reflect.DeepEqual(got, words(memory[at])) {
				t.Fatalf("%+v instead of %d at %d", got, memory[at], at)
			}
		}
	}
	slices.Sort(pending)
	if want := f.Pending(); !slices.Equal(pending, want) {
		t.Fatalf("pending are %v instead of %v", pending, want)
	}
}

// rolledStreams are of all partitions: most of them make most of their ports, and begin normal work.
func rolledStreams(roll dicer, c api.Config) [][]api.Request {
	l := make([][]api.Request, len(c.Parts))
	for _, x := range begun(roll, c) {
		l[x.Part] = append(l[x.Part], x.Req)
	}
	for p := range l {
		for range roll(60) {
			l[p] = append(l[p], rolledRequest(roll, c, p))
		}
	}
	return l
}

// P18.1, P18.2: what a machine does step by step, in any order of the steps, the model does at once.
func TestAsTheMachine(t *testing.T) {
	roll := dice()
	count := map[string]int{}
	for range 300 {
		c := rolledConfig(roll)
		f, first := fabric.New(c, rolledStreams(roll, c)...)
		if first != 0 {
			t.Fatal(first)
		}
		ticks, often := 2+roll(20), roll(2)
		for range 1500 {
			act := []int{roll(2), often}[roll(2)]
			if roll(ticks) == 0 {
				act = api.Tick
			}
			f.Do(act)
		}
		for _, x := range asTheMachine(t, c, f) {
			if x.Done {
				count[what(x, x.Ans)]++
			} else if x.Mark >= 0 {
				count["under way"]++
			}
		}
	}
	for x, least := range map[string]int{
		"refused": 500, "create": 500, "create in vain": 20, "normal": 200, "write": 200, "read valid": 100, "read": 50, "read in vain": 50, "send": 200, "send in vain": 50, "receive": 100, "receive in vain": 50,
		"status": 50, "status valid": 5, "status counts": 20, "peek": 50, "peek of a word": 20, "poke": 50, "under way": 5,
	} {
		if count[x] < least {
			t.Error(x, count[x], least)
		}
	}
	if t.Failed() {
		t.Log(count)
	}
}

// P18.1, P18.2: likewise two partitions whose windows are open always, that write and read, send and receive, over and over, steps of the one in the midst of the other's; behind each act.
func TestAsTheMachineBehindEachAct(t *testing.T) {
	roll := dice()
	for range 30 {
		c := config([]int{1, 1}, sample(0, 1, 2, 4), queue(0, 1, 2, []int{1, 2, 4, 8}[roll(4)]), sample(1, 0, 1, 0))
		for core := range c.Frames {
			c.Frames[core] = api.Frame{Length: 1, Windows: []api.Window{{Part: core, Start: 0, Len: 1}}}
		}
		from := []api.Request{creates(0), creates(2), creates(5), normally}
		to := []api.Request{creates(1), creates(3), creates(4), normally}
		for n := range uint32(30) {
			from = append(from, []api.Request{writes(0, list(100*n, 1+roll(2))...), sends(2, list(100*n, 1+roll(2))...), reads(5), asks(2), pokes(0, n)}[roll(5)])
			to = append(to, []api.Request{reads(1), receives(3), writes(4, n), asks(3), asks(1)}[roll(5)])
		}
		f, _ := fabric.New(c, from, to)
		for range 250 {
			act := roll(2)
			if roll(12) == 0 {
				act = api.Tick
			}
			f.Do(act)
			asTheMachine(t, c, f)
		}
	}
}
