package model

import (
	"math"
	"reflect"
	"slices"
	"testing"

	"porthole/api"
)

// room is a list with marked spare room behind it.
func room[T any](l []T, mark T) []T { return append(slices.Clone(l), mark, mark)[: len(l) : len(l)+2] }

// whole is a list with its marked spare room.
func whole[T any](l []T) []T { return l[:len(l)+2] }

// over writes over a list, spare room included.
func over[T any](l []T, x T) {
	l = l[:cap(l)]
	for i := range l {
		l[i] = x
	}
}

// roomy is the same configuration, each list with marked spare room.
func roomy(c api.Config) api.Config {
	c.Parts, c.Chans = room(c.Parts, api.Part{Core: -7}), room(c.Chans, api.Chan{Kind: -7})
	for i := range c.Frames {
		c.Frames[i].Windows = room(c.Frames[i].Windows, api.Window{Part: -7})
	}
	return c
}

// allOf is all that a roomy configuration has, spare room included.
func allOf(c api.Config) []any {
	return []any{slices.Clone(whole(c.Parts)), slices.Clone(whole(c.Chans)), slices.Clone(whole(c.Frames[0].Windows)), slices.Clone(whole(c.Frames[1].Windows)), c.Frames[0].Length, c.Frames[1].Length}
}

// roomyCall is the same call, its lists with marked spare room.
func roomyCall(x api.Call) api.Call {
	x.Req.Data, x.Ans.Data = room(x.Req.Data, 77), room(x.Ans.Data, 78)
	return x
}

// R1: whatever is asked for, by whomever: each call ends, and none panics; partitions, channels and words stay what they may be.
func TestAnything(t *testing.T) {
	roll := dice()
	numbers := append([]int{-2, -1, 0, 1, 2, 3, 4, 5, 6, 7, 8, 9, 10, 15, 16}, far...)
	addresses := []uint64{0, 1, 2, 4, 5, 12, 13, 1 << 16, 1 << 31, 1 << 32, 1<<32 + 1, 1 << 63, 1<<63 + 1, math.MaxUint64}
	any := func() int { return numbers[roll(len(numbers))] }
	c := mixed()
	for range 60 {
		m, y := New(c), &twin{c: c}
		for _, x := range begun(roll, c) {
			m.Do(x)
			y.do(x)
		}
		for range 150 {
			x := api.Call{
				Part: []int{roll(4), any()}[roll(2)],
				Req:  api.Request{Op: []int{roll(11), any()}[roll(2)], Port: []int{roll(16), any()}[roll(2)], Addr: addresses[roll(len(addresses))], Data: list(1, []int{0, 1, 2, 16, 17, 300}[roll(6)])},
				Ans:  api.Answer{Code: api.Errno(any()), Data: list(2, roll(3)), Valid: roll(2) == 0, Count: any()},
				Done: roll(2) == 0,
				From: any(), To: any(), T0: any(), T1: roll(lastTick), Own0: any(), Own1: any(), Mark: any(), Ring: any(), Stamp: roll(lastTick), Saw: any(),
			}
			if got, want := bareAnswer(m.Do(x)), y.do(x); !reflect.DeepEqual(got, want) {
				t.Fatalf("%+v instead of %+v: %+v", got, want, x)
			}
			if got, want := m.Ring(x), y.ring(x); got != want {
				t.Fatalf("%v of %+v", got, x)
			}
			if p := any(); roll(3) == 0 {
				if got, want := m.Deliver(p), y.deliver(p); !slices.Equal(got, want) {
					t.Fatalf("%v instead of %v: %d", got, want, p)
				}
			}
			standsAsItsTwin(t, c, m, y)
		}
	}
}

// R2, R3: beside a code other than OK, and beside false, all else is zero, and so is what has no meaning in an answer.
func TestZeroBeside(t *testing.T) {
	roll := dice()
	for range 60 {
		c := rolledConfig(roll)
		m, first := New(c), begun(roll, c)
		for i := range 120 {
			x := rolledCall(roll, c, i)
			if i < len(first) {
				x = first[i]
			}
			ans := bareAnswer(m.Do(x))
			// What may be told beside OK by each kind.
			bare := ans
			if ans.Code == ok && slices.Contains([]int{read, receive, peek}, x.Req.Op) {
				if bare.Data = nil; len(ans.Data) == 0 {
					t.Fatalf("%+v of %+v", ans, x)
				}
			}
			if ans.Code == ok && (x.Req.Op == read || x.Req.Op == status && c.Chans[x.Req.Port/2].Kind == sampling && x.Req.Port%2 == 1) {
				bare.Valid = false
			}
			if ans.Code == ok && x.Req.Op == status && c.Chans[x.Req.Port/2].Kind == queuing {
				bare.Count = 0
			}
			if !reflect.DeepEqual(bare, code(ans.Code)) {
				t.Fatalf("%+v of %+v", ans, x)
			}
		}
	}
}

// R3: nil lists and empty ones are one, handed in.
func TestNoneAndEmpty(t *testing.T) {
	c := mixed()
	emptied := config([]int{3, 2, 0, 8})
	emptied.Chans = []api.Chan{}
	bareOne := config([]int{3, 2, 0, 8})
	if got, want := everything(emptied, New(emptied)), everything(bareOne, New(bareOne)); !reflect.DeepEqual(got, want) {
		t.Errorf("%+v instead of %+v", got, want)
	}
	// Core 1 has no partition, so its frame may have no window.
	one := config([]int{1})
	other := config([]int{1})
	one.Frames[1].Windows, other.Frames[1].Windows = nil, []api.Window{}
	if got, want := everything(one, New(one)), everything(other, New(other)); !reflect.DeepEqual(got, want) {
		t.Errorf("%+v instead of %+v", got, want)
	}
	for _, work := range []bool{true, false} {
		for p := range c.Parts {
			for op := range 11 {
				for _, port := range owned(c, p) {
					a, b := play(t, c), play(t, c)
					if work {
						a, b = filled(t), filled(t)
					}
					r := api.Request{Op: op, Port: port, Addr: privates[p][0]}
					x, y := by(p, r), by(p, r)
					x.Req.Data, y.Req.Data = nil, []uint32{}
					got, want := bareAnswer(a.m.Do(x)), bareAnswer(b.m.Do(y))
					if !reflect.DeepEqual(got, want) || a.m.Ring(x) != b.m.Ring(y) {
						t.Fatalf("%+v and %+v: %+v", got, want, x)
					}
					if got, want := everything(c, a.m), everything(c, b.m); !reflect.DeepEqual(got, want) {
						t.Fatalf("%+v and %+v: %+v", got, want, x)
					}
				}
			}
		}
	}
}

// R4: what is handed in isn't changed, spare room included.
func TestHandedInIsntChanged(t *testing.T) {
	roll := dice()
	for range 60 {
		plain := rolledConfig(roll)
		c := roomy(plain)
		m, first := New(c), begun(roll, plain)
		for i := range 120 {
			x := rolledCall(roll, plain, i)
			if i < len(first) {
				x = first[i]
			}
			x = roomyCall(x)
			before := x
			data, ans := slices.Clone(whole(x.Req.Data)), slices.Clone(whole(x.Ans.Data))
			m.Do(x)
			m.Ring(x)
			m.Deliver(roll(len(plain.Parts)))
			m.Standing(roll(len(plain.Parts)))
			if !reflect.DeepEqual(x, before) || !slices.Equal(whole(x.Req.Data), data) || !slices.Equal(whole(x.Ans.Data), ans) {
				t.Fatalf("%+v instead of %+v", x, before)
			}
		}
		if got, want := allOf(c), allOf(roomy(plain)); !reflect.DeepEqual(got, want) {
			t.Fatalf("%+v instead of %+v", got, want)
		}
	}
}

// R4: what the caller writes, behind a call, into what it handed in, and into what it was answered, spare room included, makes no difference.
func TestNothingIsShared(t *testing.T) {
	roll := dice()
	for range 100 {
		plain := rolledConfig(roll)
		c := roomy(plain)
		m, y, first := New(c), &twin{c: plain}, begun(roll, plain)
		for i := range 120 {
			over(c.Parts, api.Part{Core: roll(2), Private: roll(9)})
			over(c.Chans, api.Chan{Kind: roll(3), From: roll(6), To: roll(6), Words: roll(9), Depth: roll(9), Period: roll(9)})
			for core := range c.Frames {
				over(c.Frames[core].Windows, api.Window{})
			}
			x := rolledCall(roll, plain, i)
			if i < len(first) {
				x = first[i]
			}
			x = roomyCall(x)
			want := y.do(x)
			got := m.Do(x)
			if !reflect.DeepEqual(bareAnswer(got), want) {
				t.Fatalf("%+v instead of %+v: %+v", got, want, x)
			}
			over(got.Data, 991)
			if m.Ring(x) != y.ring(x) {
				t.Fatalf("ring of %+v", x)
			}
			over(x.Req.Data, 992)
			over(x.Ans.Data, 993)
			for p := range plain.Parts {
				s, _ := m.Standing(p)
				over(s.Made, -9)
				over(s.Valid, -9)
			}
			if p := roll(len(plain.Parts)); roll(3) == 0 {
				l, want := m.Deliver(p), y.deliver(p)
				if !slices.Equal(l, want) {
					t.Fatalf("%v instead of %v", l, want)
				}
				over(l, -9)
			}
			standsAsItsTwin(t, plain, m, y)
		}
		if got, want := everything(plain, m), y.everything(); !reflect.DeepEqual(got, want) {
			t.Fatalf("%+v instead of %+v", got, want)
		}
	}
}

// R4: no two answers share memory: all that was answered stays as it was, though what was answered later is written over.
func TestAnswersAreNew(t *testing.T) {
	y := filled(t)
	first := y.m.Do(until(1, 13, reads(1)))
	second := y.m.Do(until(1, 13, reads(1)))
	over(second.Data, 99)
	if !slices.Equal(first.Data, []uint32{60, 61}) {
		t.Error(first)
	}
	y.does(until(1, 13, reads(1)), valid(60, 61))
	one, two := y.m.Do(by(0, peeks(0))), y.m.Do(by(0, peeks(0)))
	over(two.Data, 99)
	if !slices.Equal(one.Data, []uint32{113}) {
		t.Error(one)
	}
	y.does(by(0, peeks(0)), words(113))
	one, two = y.m.Do(by(1, receives(3))), y.m.Do(by(1, receives(3)))
	over(two.Data, 99)
	if !slices.Equal(one.Data, []uint32{62}) {
		t.Error(one)
	}
	// The row goes on in the same places.
	y.does(by(0, sends(2, 7, 8, 9)), fine)
	over(one.Data, 99)
	over(two.Data, 99)
	y.does(by(1, receives(3)), words(7, 8, 9))
	a, _ := y.m.Standing(0)
	b, _ := y.m.Standing(0)
	over(b.Made, -9)
	over(b.Valid, -9)
	if want := works(0, owned(mixed(), 0), 15, 5); !reflect.DeepEqual(a, want) {
		t.Errorf("%+v instead of %+v", a, want)
	}
	y.stands(works(0, owned(mixed(), 0), 15, 5))
}

// R4: a standing that was told stays as it was, whatever the partition does then.
func TestStandingsStay(t *testing.T) {
	y := play(t, mixed())
	var all []api.Standing
	var want [][2]int
	look := func() {
		s, _ := y.m.Standing(0)
		all, want = append(all, s), append(want, [2]int{len(s.Made), len(s.Valid)})
	}
	look()
	for _, port := range []int{5, 15, 0, 2} {
		y.does(by(0, creates(port)), fine)
		look()
	}
	y.does(by(0, normally), fine)
	for _, x := range []struct{ p, port, source int }{{1, 5, 4}, {3, 15, 14}} {
		y.does(by(x.p, creates(x.source)), fine)
		y.does(by(x.p, normally), fine)
		y.does(stamped(x.p, 10, writes(x.source, 7)), fine)
		y.does(until(0, 10, reads(x.port)), valid(7))
		look()
	}
	y.does(until(0, 99, reads(5)), words(7))
	look()
	y.does(until(0, 10, reads(5)), valid(7))
	look()
	valids := [][]int{nil, nil, nil, nil, nil, {5}, {5, 15}, {15}, {15, 5}}
	for i, s := range all {
		if !slices.Equal(s.Made, []int{5, 15, 0, 2}[:want[i][0]]) || !slices.Equal(s.Valid, valids[i]) || s.Normal != (i > 4) {
			t.Errorf("%d: %+v", i, s)
		}
	}
}

// R5: what a call comes to hangs on its Part, Req, Stamp and T1 alone.
func TestNothingElseOfACall(t *testing.T) {
	roll := dice()
	for range 60 {
		c := rolledConfig(roll)
		a, b, first := New(c), New(c), begun(roll, c)
		for i := range 120 {
			x := rolledCall(roll, c, i)
			if i < len(first) {
				x = first[i]
			}
			y := api.Call{Part: x.Part, Req: x.Req, Stamp: x.Stamp, T1: x.T1}
			if roll(2) == 0 {
				y.Ans = api.Answer{Code: api.Errno(roll(10)), Data: list(5, roll(4)), Valid: roll(2) == 0, Count: roll(9)}
				y.Done, y.From, y.To, y.T0, y.Own0, y.Own1, y.Mark, y.Ring, y.Saw = roll(2) == 0, roll(99), roll(99), roll(99), roll(99), roll(99), roll(99), roll(99), roll(99)
			}
			// A Stamp counts of a Write alone, T1 of a Read alone.
			if x.Req.Op != write {
				y.Stamp = roll(99)
			}
			if x.Req.Op != read {
				y.T1 = roll(99)
			}
			if got, want := bareAnswer(a.Do(x)), bareAnswer(b.Do(y)); !reflect.DeepEqual(got, want) || a.Ring(x) != b.Ring(y) {
				t.Fatalf("%+v instead of %+v: %+v", got, want, x)
			}
		}
		if got, want := everything(c, a), everything(c, b); !reflect.DeepEqual(got, want) {
			t.Fatalf("%+v instead of %+v", got, want)
		}
	}
}

// R5: two models that have been through the same come to the same, whatever a third one does meanwhile; asking where partitions stand makes no difference.
func TestAlike(t *testing.T) {
	roll := dice()
	for range 60 {
		c := rolledConfig(roll)
		a, b, third, first := New(c), New(c), New(c), begun(roll, c)
		for i := range 120 {
			x := rolledCall(roll, c, i)
			if i < len(first) {
				x = first[i]
			}
			got := bareAnswer(a.Do(x))
			third.Do(rolledCall(roll, c, i))
			third.Do(x)
			third.Ring(x)
			for p := -1; p <= len(c.Parts); p++ {
				third.Deliver(p)
				a.Standing(p)
			}
			if want := bareAnswer(b.Do(x)); !reflect.DeepEqual(got, want) || a.Ring(x) != b.Ring(x) {
				t.Fatalf("%+v and %+v: %+v", got, want, x)
			}
		}
		if got, want := everything(c, a), everything(c, b); !reflect.DeepEqual(got, want) {
			t.Fatalf("%+v instead of %+v", got, want)
		}
	}
}
