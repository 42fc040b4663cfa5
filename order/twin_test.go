package order

import (
	"reflect"
	"slices"
	"testing"

	"porthole/api"
	"porthole/model"
)

// stretch is from when to when an item is, by the chapter's words.
type stretch struct {
	begins, ends int
	hasEnd       bool
}

// stretchOf is an item's, and whether it is one.
func stretchOf(l []api.Call, b []api.Belling, x api.Item) (stretch, bool) {
	for i, y := range l {
		if x == effect(i) && y.Done {
			return stretch{y.From, y.To, true}, true
		}
		if x == effect(i) && y.Mark > -1 {
			return stretch{begins: y.From}, true
		}
		if x == ring(i) && y.Ring > -1 {
			return stretch{y.Ring, y.Ring, true}, true
		}
	}
	for i, y := range b {
		if x == deliver(i) {
			return stretch{y.At, y.At, true}, true
		}
	}
	return stretch{}, false
}

// isAhead tells whether one item is ahead of another one, by the chapter's words.
func isAhead(l []api.Call, b []api.Belling, x, y api.Item) bool {
	from, one := stretchOf(l, b, x)
	to, other := stretchOf(l, b, y)
	if !one || !other || x == y {
		return false
	}
	return from.hasEnd && from.ends < to.begins || x == effect(x.Of) && y == ring(x.Of)
}

// dueItems are those that are due.
func dueItems(l []api.Call, b []api.Belling) (is []api.Item) {
	for i, x := range l {
		if x.Done {
			is = append(is, effect(i))
		}
		if x.Ring > -1 {
			is = append(is, ring(i))
		}
	}
	for i := range b {
		is = append(is, deliver(i))
	}
	return is
}

// fits tells whether an order's items are such as may be, and stand as they may by their times, each two held against each other.
func fits(l []api.Call, b []api.Belling, order []api.Item) bool {
	for i, x := range order {
		if _, one := stretchOf(l, b, x); !one {
			return false
		}
		for _, y := range order[:i] {
			if x == y || isAhead(l, b, x, y) {
				return false
			}
		}
	}
	for _, x := range dueItems(l, b) {
		if !slices.Contains(order, x) {
			return false
		}
	}
	return true
}

// couldHaveBeen tells whether an order could have been, by the chapter's words.
func couldHaveBeen(c api.Config, l []api.Call, b []api.Belling, order []api.Item) bool {
	if !fits(l, b, order) {
		return false
	}
	m := model.New(c)
	for _, x := range order {
		switch x.Kind {
		case isRing:
			if !m.Ring(l[x.Of]) {
				return false
			}
		case isDeliver:
			if !slices.Equal(m.Deliver(b[x.Of].Part), b[x.Of].Ports) {
				return false
			}
		case isEffect:
			if got := m.Do(l[x.Of]); l[x.Of].Done && !reflect.DeepEqual(bare(got), bare(l[x.Of].Ans)) {
				return false
			}
		}
	}
	return true
}

// bare is the same answer, its list none, if there is nothing in it.
func bare(x api.Answer) api.Answer {
	if len(x.Data) == 0 {
		x.Data = nil
	}
	return x
}

// dicer rolls numbers from 0 on, below n: the same ones in each run.
type dicer func(n int) int

func dice() dicer {
	state := uint64(20)
	return func(n int) int {
		state = state*6364136223846793005 + 1442695040888963407
		return int(state >> 33 % uint64(n))
	}
}

// shuffled is the same list in any order.
func shuffled[T any](roll dicer, l []T) []T {
	l = slices.Clone(l)
	for i := len(l) - 1; i > 0; i-- {
		k := roll(i + 1)
		l[i], l[k] = l[k], l[i]
	}
	return l
}

// rolled are any calls and deliveries, of small numbers, so that many are of one moment; most of them aren't sound.
func rolled(roll dicer) (l []api.Call, b []api.Belling) {
	for range roll(5) {
		x := done(roll(2), roll(8), roll(8), api.Request{Op: []int{poke, peek, send, send}[roll(4)], Port: roll(2), Addr: uint64(roll(6)), Data: []uint32{uint32(roll(2))}})
		x.Done, x.Mark, x.Ring = roll(4) > 0, roll(4)-1, roll(10)-4
		x.Ans = []api.Answer{{}, {Code: accessFault}, {Code: invalidParam}, {Data: []uint32{0}}, {Data: []uint32{1}}}[roll(5)]
		if x.Req.Op == send {
			x.Ans = api.Answer{Code: invalidParam}
		}
		l = append(l, x)
	}
	for range roll(3) {
		b = append(b, api.Belling{Part: roll(2), Ports: [][]int{nil, {1}}[roll(2)], At: roll(8)})
	}
	return l, b
}

// someItems are items of calls and deliveries, most of which are one.
func someItems(l []api.Call, b []api.Belling) (is []api.Item) {
	for kind := 0; kind <= 4; kind++ {
		for i := -1; i <= max(len(l), len(b)); i++ {
			is = append(is, api.Item{Kind: kind, Of: i})
		}
	}
	return is
}

// P20.1: of any calls and deliveries, Is and Ahead are what the chapter's words say.
func TestAnyIsAndAhead(t *testing.T) {
	roll := dice()
	count := map[bool]int{}
	for range 2000 {
		l, b := rolled(roll)
		if roll(4) == 0 {
			l, b = odd(roll)
		}
		some := someItems(l, b)
		for _, x := range some {
			_, one := stretchOf(l, b, x)
			if Is(l, b, x) != one {
				t.Fatalf("%v: %v, of %+v and %+v", x, !one, l, b)
			}
			for _, y := range some {
				want := isAhead(l, b, x, y)
				if Ahead(l, b, x, y) != want {
					t.Fatalf("%v and %v: %v, of %+v and %+v", x, y, !want, l, b)
				}
				count[want]++
			}
		}
	}
	if count[true] < 10000 || count[false] < 10000 {
		t.Error(count)
	}
}

// P20.1: of any calls and deliveries, and of any orders, Valid is what the chapter's words say.
func TestAnyOrder(t *testing.T) {
	roll := dice()
	c := between(queue(0, 1, 1, 1))
	count := map[[2]bool]int{} // of orders, whether they fit, and whether they could have been
	for range 60000 {
		l, b := rolled(roll)
		order := dueItems(l, b)
		for i, x := range l {
			if !x.Done && x.Mark >= 0 && roll(2) == 0 {
				order = append(order, effect(i))
			}
		}
		order = shuffled(roll, order)
		if roll(2) == 0 {
			// Those that begin first stand first, which most often is as it may be.
			slices.SortStableFunc(order, func(x, y api.Item) int {
				from, _ := stretchOf(l, b, x)
				to, _ := stretchOf(l, b, y)
				return from.begins - to.begins
			})
		}
		if some := someItems(l, b); roll(9) == 0 {
			order = slices.Insert(order, roll(len(order)+1), some[roll(len(some))])
		}
		if len(order) > 0 && roll(9) == 0 {
			i := roll(len(order))
			order = slices.Delete(order, i, i+1)
		}
		want := couldHaveBeen(c, l, b, order)
		if Valid(c, l, b, order...) != want {
			t.Fatalf("%v: %v, of %+v and %+v", order, !want, l, b)
		}
		if len(order) > 1 {
			count[[2]bool{fits(l, b, order), want}]++
		}
	}
	if count[[2]bool{false, false}] < 1000 || count[[2]bool{true, false}] < 1000 || count[[2]bool{true, true}] < 1000 {
		t.Error(count)
	}
}
