package flow

import (
	"math"
	"reflect"
	"slices"
	"testing"

	"porthole/api"
)

func asks(op, port int, data ...uint32) api.Request {
	return api.Request{Op: op, Port: port, Data: data}
}

// done is a call that is answered: begun and answered are the partition's own steps and the ticks, in turn.
func done(part, own0, t0, own1, t1 int, r api.Request, a api.Answer) api.Call {
	x := open(part, own0, t0, r)
	x.Ans, x.Done, x.Own1, x.T1, x.To = a, true, own1, t1, 60+own1
	return x
}

// open is one that isn't answered.
func open(part, own0, t0 int, r api.Request) api.Call {
	return api.Call{Part: part, Req: r, From: 50 + own0, To: none, T0: t0, T1: none, Own0: own0, Own1: none, Mark: 70, Ring: 71, Stamp: 72, Saw: 73}
}

// delivered is a delivery.
func delivered(part, own, at int, ports ...int) api.Belling {
	return api.Belling{Part: part, Ports: ports, At: 80 + own, Tick: at, Own: own}
}

func calls(l ...api.Call) []api.Call          { return l }
func bellings(l ...api.Belling) []api.Belling { return l }

// begins, ends and hears are sights, each of one kind.
func begins(own, at int, r api.Request) api.Sight {
	return api.Sight{Kind: isBegun, Own: own, Tick: at, Req: r}
}

func ends(own, at int, a api.Answer) api.Sight {
	return api.Sight{Kind: isAnswered, Own: own, Tick: at, Ans: a}
}

func hears(own, at int, ports ...int) api.Sight {
	return api.Sight{Kind: isDelivered, Own: own, Tick: at, Ports: ports}
}

// plain are the same sights, lists in which there is nothing being none.
func plain(sights []api.Sight) []api.Sight {
	l := []api.Sight{}
	for _, x := range sights {
		if len(x.Req.Data) == 0 {
			x.Req.Data = nil
		}
		if len(x.Ans.Data) == 0 {
			x.Ans.Data = nil
		}
		if len(x.Ports) == 0 {
			x.Ports = nil
		}
		l = append(l, x)
	}
	return l
}

// alike tells whether sights are the same, by the words alone.
func alike(a, b []api.Sight) bool { return reflect.DeepEqual(plain(a), plain(b)) }

// view tells a fault unless these are the partition's sights, once and again.
func view(t *testing.T, what string, l []api.Call, b []api.Belling, p int, want ...api.Sight) {
	t.Helper()
	for range 2 {
		if got := View(l, b, p); !alike(got, want) {
			t.Fatalf("%s: of %d: %+v instead of %+v, of %+v and %+v", what, p, got, want, l, b)
		}
	}
}

// P21.2: no calls and no deliveries: no sights.
func TestViewOfNone(t *testing.T) {
	for _, p := range append([]int{-1, 0, 1, 5, 6}, far...) {
		view(t, "none", nil, nil, p)
		view(t, "empty", calls(), bellings(), p)
		view(t, "no calls", calls(), nil, p)
		view(t, "no deliveries", nil, bellings(), p)
		view(t, "others'", calls(open(3, 1, 0, asks(normal, 0))), bellings(delivered(4, 0, 0, 1)), p)
	}
}

// P21.2: a call that is Done: Begun, then Answered, each with its own step and its tick; one that isn't: Begun alone.
func TestViewOfACall(t *testing.T) {
	r := api.Request{Op: poke, Port: 4, Addr: 1 << 40, Data: []uint32{7, math.MaxUint32}}
	a := api.Answer{Code: invalidMode, Data: []uint32{8, 0, 9}, Valid: true, Count: 11}
	view(t, "Done", calls(done(2, 3, 15, 8, 21, r, a)), nil, 2, begins(3, 15, r), ends(8, 21, a))
	view(t, "of another one", calls(done(2, 3, 15, 8, 21, r, a)), nil, 1)
	view(t, "not Done", calls(open(2, 3, 15, r)), nil, 2, begins(3, 15, r))
	x := done(2, 3, 15, 8, 21, r, a)
	x.Done = false
	view(t, "not Done, whatever else it has", calls(x), nil, 2, begins(3, 15, r))
	view(t, "of one step", calls(done(0, 1, 4, 1, 4, asks(normal, 0), api.Answer{})), nil, 0, begins(1, 4, asks(normal, 0)), ends(1, 4, api.Answer{}))
	view(t, "refused", calls(done(0, 1, 0, 1, 0, asks(normal, 0), api.Answer{Code: invalidMode})), nil, 0, begins(1, 0, asks(normal, 0)), ends(1, 0, api.Answer{Code: invalidMode}))
	view(t, "the zero call", make([]api.Call, 1), nil, 0, begins(0, 0, api.Request{}))
	view(t, "the zero call, Done", calls(api.Call{Done: true}), nil, 0, begins(0, 0, api.Request{}), ends(0, 0, api.Answer{}))
}

// P21.2: of whatever is asked for, and whatever is answered.
func TestViewOfAnyCall(t *testing.T) {
	for op := -1; op <= 10; op++ {
		for code := range api.Errno(7) {
			r := asks(op, op+3, uint32(op+5))
			a := api.Answer{Code: code, Count: op + 1, Valid: op%2 == 0}
			view(t, "a call", calls(done(1, 5, 2, 9, 3, r, a)), nil, 1, begins(5, 2, r), ends(9, 3, a))
		}
	}
}

// P21.2: a delivery: its own steps so far, its tick, its ports.
func TestViewOfADelivery(t *testing.T) {
	view(t, "one port", nil, bellings(delivered(1, 4, 9, 3)), 1, hears(4, 9, 3))
	view(t, "several", nil, bellings(delivered(1, 4, 9, 1, 3, 15)), 1, hears(4, 9, 1, 3, 15))
	view(t, "without ports", nil, bellings(delivered(1, 4, 9)), 1, hears(4, 9))
	view(t, "ahead of any step", nil, bellings(delivered(1, 0, 1, 3)), 1, hears(0, 1, 3))
	view(t, "to another one", nil, bellings(delivered(1, 4, 9, 3)), 3)
	view(t, "the zero delivery", nil, make([]api.Belling, 1), 0, hears(0, 0))
}

// P21.2: several calls and deliveries, among those of others.
func TestViewAmongOthers(t *testing.T) {
	get, put := asks(receive, 3), asks(send, 4, 6)
	empty, full, one := api.Answer{Code: notAvailable}, api.Answer{Code: notAvailable}, api.Answer{Data: []uint32{5}}
	l := calls(
		done(0, 1, 0, 1, 0, asks(create, 2), api.Answer{}),
		done(1, 1, 0, 1, 0, asks(create, 3), api.Answer{}),
		done(1, 2, 1, 2, 1, asks(normal, 0), api.Answer{}),
		done(0, 2, 1, 2, 1, asks(normal, 0), api.Answer{}),
		done(1, 3, 1, 4, 3, get, empty),
		done(0, 3, 2, 8, 4, asks(send, 2, 5), api.Answer{}),
		done(1, 5, 4, 9, 6, get, one),
		done(1, 10, 6, 11, 6, put, full),
		open(0, 9, 7, asks(peek, 0)),
		open(1, 12, 7, put),
	)
	b := bellings(delivered(1, 1, 1, 5), delivered(0, 0, 1, 7), delivered(1, 6, 5, 3, 5), delivered(0, 8, 5, 7), delivered(1, 9, 6, 3))
	view(t, "the first one", l, b, 0,
		hears(0, 1, 7),
		begins(1, 0, asks(create, 2)), ends(1, 0, api.Answer{}),
		begins(2, 1, asks(normal, 0)), ends(2, 1, api.Answer{}),
		begins(3, 2, asks(send, 2, 5)), ends(8, 4, api.Answer{}), hears(8, 5, 7),
		begins(9, 7, asks(peek, 0)))
	view(t, "the second one", l, b, 1,
		begins(1, 0, asks(create, 3)), ends(1, 0, api.Answer{}), hears(1, 1, 5),
		begins(2, 1, asks(normal, 0)), ends(2, 1, api.Answer{}),
		begins(3, 1, get), ends(4, 3, empty),
		begins(5, 4, get), hears(6, 5, 3, 5), ends(9, 6, one), hears(9, 6, 3),
		begins(10, 6, put), ends(11, 6, full),
		begins(12, 7, put))
	view(t, "one that has none", l, b, 2)
	view(t, "one that there isn't", l, b, -1)
}

// P21.2: of one Own Begun comes first, then Answered, then Delivered, whatever their ticks and wherever they stand; deliveries in the order of their list.
func TestViewOfOneOwn(t *testing.T) {
	x, y := asks(normal, 0), asks(poke, 0, 8)
	a := api.Answer{Code: invalidMode}
	one := done(0, 4, 9, 4, 9, x, a)
	b := bellings(delivered(0, 4, 12, 5), delivered(0, 4, 10, 3), delivered(0, 4, 11), delivered(0, 4, 10, 1))
	behind := []api.Sight{hears(4, 12, 5), hears(4, 10, 3), hears(4, 11), hears(4, 10, 1)}
	view(t, "a call of one step", calls(one), b, 0, append([]api.Sight{begins(4, 9, x), ends(4, 9, a)}, behind...)...)
	view(t, "deliveries alone", nil, b, 0, behind...)
	view(t, "one that begins", calls(open(0, 4, 20, y)), b, 0, append([]api.Sight{begins(4, 20, y)}, behind...)...)
	view(t, "one that ends", calls(done(0, 2, 9, 4, 20, y, a)), b, 0, append([]api.Sight{begins(2, 9, y), ends(4, 20, a)}, behind...)...)
	view(t, "one that ends ahead of them", calls(done(0, 2, 9, 3, 20, y, a)), b, 0, append([]api.Sight{begins(2, 9, y), ends(3, 20, a)}, behind...)...)
	view(t, "one that ends behind them", calls(done(0, 2, 9, 5, 9, y, a)), b, 0, append(append([]api.Sight{begins(2, 9, y)}, behind...), ends(5, 9, a))...)
	slices.Reverse(b)
	slices.Reverse(behind)
	view(t, "the other way round", calls(one), b, 0, append([]api.Sight{begins(4, 9, x), ends(4, 9, a)}, behind...)...)
}

// P21.2: they come by rising Own, wherever they stand in their lists.
func TestViewInOrder(t *testing.T) {
	x, y, z := asks(normal, 0), asks(create, 6), asks(peek, 1)
	a, b, c := api.Answer{Code: invalidMode}, api.Answer{Code: noAction}, api.Answer{Data: []uint32{4}}
	l := calls(done(0, 7, 5, 9, 6, x, a), done(0, 2, 1, 2, 1, y, b), done(0, 3, 2, 6, 4, z, c))
	rings := bellings(delivered(0, 8, 6, 1), delivered(0, 2, 2, 3), delivered(0, 10, 9, 5), delivered(0, 1, 1, 7), delivered(0, 4, 3, 1))
	want := []api.Sight{
		hears(1, 1, 7),
		begins(2, 1, y), ends(2, 1, b), hears(2, 2, 3),
		begins(3, 2, z), hears(4, 3, 1), ends(6, 4, c),
		begins(7, 5, x), hears(8, 6, 1), ends(9, 6, a), hears(10, 9, 5),
	}
	roll := dice()
	for range 100 {
		view(t, "any order", shuffled(roll, l), shuffled(roll, rings), 0, want...)
	}
	// Far beyond what fits into the differences of numbers, and below 0.
	view(t, "far apart", calls(open(0, math.MaxInt, 1, x), open(0, math.MinInt, 2, y), open(0, 0, 3, z)), bellings(delivered(0, -1, 4, 1), delivered(0, math.MinInt, 5), delivered(0, math.MaxInt, 6)), 0,
		begins(math.MinInt, 2, y), hears(math.MinInt, 5), hears(-1, 4, 1), begins(0, 3, z), begins(math.MaxInt, 1, x), hears(math.MaxInt, 6))
}

// viewed are the partition's sights, by the chapter's words, with lists of their own.
func viewed(l []api.Call, b []api.Belling, p int) (sights []api.Sight) {
	owns := map[int]bool{}
	for _, x := range l {
		owns[x.Own0], owns[x.Own1] = true, true
	}
	for _, x := range b {
		owns[x.Own] = true
	}
	var rising []int
	for own := range owns {
		rising = append(rising, own)
	}
	slices.Sort(rising)
	for _, own := range rising {
		for _, x := range l {
			if x.Part == p && x.Own0 == own {
				r := x.Req
				r.Data = slices.Clone(r.Data)
				sights = append(sights, begins(own, x.T0, r))
			}
		}
		for _, x := range l {
			if x.Part == p && x.Done && x.Own1 == own {
				a := x.Ans
				a.Data = slices.Clone(a.Data)
				sights = append(sights, ends(own, x.T1, a))
			}
		}
		for _, x := range b {
			if x.Part == p && x.Own == own {
				sights = append(sights, hears(own, x.Tick, slices.Clone(x.Ports)...))
			}
		}
	}
	return sights
}

// P21.2: of any calls and deliveries, many of one Own.
func TestViewOfAny(t *testing.T) {
	roll := dice()
	seen := 0
	for range 5000 {
		l, b := rolled(roll, 12)
		for p := range 3 {
			want := viewed(l, b, p)
			view(t, "any", l, b, p, want...)
			seen += len(want)
		}
	}
	if seen < 10000 {
		t.Error(seen)
	}
	l, b := rolled(roll, 3000)
	for p := range 3 {
		view(t, "many", l, b, p, viewed(l, b, p)...)
	}
}

// some are sights of all kinds, with all that they have, and with more than they have.
func some() []api.Sight {
	full := api.Sight{Kind: 4, Own: 5, Tick: 6, Req: api.Request{Op: send, Port: 2, Addr: 1 << 33, Data: []uint32{1, 2}}, Ans: api.Answer{Code: noAction, Data: []uint32{3, 4}, Valid: true, Count: 3}, Ports: []int{1, 3}}
	return []api.Sight{
		hears(0, 1, 5, 7),
		begins(1, 1, asks(send, 2, 5, 6)),
		ends(7, 2, api.Answer{Code: notAvailable}),
		full,
		begins(8, 2, api.Request{Op: peek, Addr: 3}),
		ends(9, 4, api.Answer{Data: []uint32{8, 9}, Valid: true}),
		ends(9, 4, api.Answer{Count: 2}),
		{},
		hears(9, 5),
	}
}

// sameOrNot tells a fault unless Same answers that, whichever of the two stands first.
func sameOrNot(t *testing.T, what string, want bool, a, b []api.Sight) {
	t.Helper()
	for range 2 {
		if Same(a, b) != want || Same(b, a) != want {
			t.Fatalf("%s: not %v, of %+v and %+v", what, want, a, b)
		}
	}
}

// P21.2: the same sights are, those of one list and those of two; no sights are the same as no sights.
func TestSame(t *testing.T) {
	l := some()
	sameOrNot(t, "one list", true, l, l)
	sameOrNot(t, "two lists", true, l, some())
	for _, none := range [][]api.Sight{nil, {}, l[:0]} {
		sameOrNot(t, "none", true, none, nil)
		sameOrNot(t, "none and empty", true, none, []api.Sight{})
		sameOrNot(t, "none and some", false, none, l)
		sameOrNot(t, "none and the zero one", false, none, make([]api.Sight, 1))
	}
	for i := range l {
		sameOrNot(t, "one", true, l[i:i+1], some()[i:i+1])
		for j := range l {
			sameOrNot(t, "one and another one", i == j, l[i:i+1], l[j:j+1])
		}
	}
}

// P21.2: sights that differ in their number or their order aren't the same.
func TestSameNumberAndOrder(t *testing.T) {
	l := some()
	for i := range l {
		sameOrNot(t, "the first ones", false, l, l[:i])
		sameOrNot(t, "the last ones", false, l, l[i+1:])
		sameOrNot(t, "one less", false, l, slices.Delete(some(), i, i+1))
		sameOrNot(t, "one twice", false, l, slices.Insert(some(), i, l[i]))
		sameOrNot(t, "the zero one more", false, l, slices.Insert(some(), i, api.Sight{}, api.Sight{}))
		for j := range i {
			other := some()
			other[i], other[j] = other[j], other[i]
			sameOrNot(t, "two changed for one another", false, l, other)
		}
	}
	sameOrNot(t, "the zero one behind", false, l, append(some(), api.Sight{}))
}

// bends are all ways in which one thing of a sight becomes another one.
var bends = []func(x *api.Sight){
	func(x *api.Sight) { x.Kind++ },
	func(x *api.Sight) { x.Kind = -x.Kind - 1 },
	func(x *api.Sight) { x.Own++ },
	func(x *api.Sight) { x.Own += 1 << 32 },
	func(x *api.Sight) { x.Tick++ },
	func(x *api.Sight) { x.Tick -= 1 << 32 },
	func(x *api.Sight) { x.Req.Op++ },
	func(x *api.Sight) { x.Req.Op += 1 << 32 },
	func(x *api.Sight) { x.Req.Port++ },
	func(x *api.Sight) { x.Req.Port -= 1 << 40 },
	func(x *api.Sight) { x.Req.Addr++ },
	func(x *api.Sight) { x.Req.Addr += 1 << 32 },
	func(x *api.Sight) { x.Req.Addr ^= 1 << 63 },
	func(x *api.Sight) { x.Req.Data = append(slices.Clone(x.Req.Data), 0) },
	func(x *api.Sight) { x.Req.Data = append([]uint32{7}, x.Req.Data...) },
	func(x *api.Sight) { x.Ans.Code++ },
	func(x *api.Sight) { x.Ans.Code += 1 << 32 },
	func(x *api.Sight) { x.Ans.Data = append(slices.Clone(x.Ans.Data), 0) },
	func(x *api.Sight) { x.Ans.Data = append([]uint32{7}, x.Ans.Data...) },
	func(x *api.Sight) { x.Ans.Valid = !x.Ans.Valid },
	func(x *api.Sight) { x.Ans.Count++ },
	func(x *api.Sight) { x.Ans.Count -= 1 << 32 },
	func(x *api.Sight) { x.Ports = append(slices.Clone(x.Ports), 0) },
	func(x *api.Sight) { x.Ports = append([]int{-1}, x.Ports...) },
}

// P21.2: sights that differ in one number, one word or one port aren't the same, whichever sight it is of.
func TestSameButForOne(t *testing.T) {
	for i := range some() {
		for k, bend := range bends {
			l := some()
			bend(&l[i])
			if alike(l, some()) {
				t.Fatal(i, k)
			}
			sameOrNot(t, "bent", false, some(), l)
			other := some()
			bend(&other[i])
			sameOrNot(t, "both bent", true, other, l)
		}
		for k := range some()[i].Req.Data {
			l := some()
			l[i].Req.Data[k] ^= 1 << 31
			sameOrNot(t, "another word of what is asked for", false, some(), l)
			sameOrNot(t, "a word less of what is asked for", false, some(), with(some(), i, func(x *api.Sight) { x.Req.Data = x.Req.Data[:k] }))
		}
		for k := range some()[i].Ans.Data {
			l := some()
			l[i].Ans.Data[k]++
			sameOrNot(t, "another word of the answer", false, some(), l)
			sameOrNot(t, "a word less of the answer", false, some(), with(some(), i, func(x *api.Sight) { x.Ans.Data = x.Ans.Data[k+1:] }))
		}
		for k := range some()[i].Ports {
			l := some()
			l[i].Ports[k] += 1 << 32
			sameOrNot(t, "another port", false, some(), l)
			sameOrNot(t, "a port less", false, some(), with(some(), i, func(x *api.Sight) { x.Ports = slices.Delete(x.Ports, k, k+1) }))
		}
		sameOrNot(t, "words the other way round", len(some()[i].Req.Data)+len(some()[i].Ans.Data)+len(some()[i].Ports) < 2, some(), with(some(), i, func(x *api.Sight) {
			slices.Reverse(x.Req.Data)
			slices.Reverse(x.Ans.Data)
			slices.Reverse(x.Ports)
		}))
	}
	sameOrNot(t, "words and ports aren't one", false, []api.Sight{hears(1, 1, 3)}, []api.Sight{{Kind: isDelivered, Own: 1, Tick: 1, Req: asks(0, 0, 3)}})
	sameOrNot(t, "nor is what is asked for and what is answered", false, []api.Sight{{Req: asks(0, 0, 3)}}, []api.Sight{{Ans: api.Answer{Data: []uint32{3}}}})
}

// with are sights one of which is bent.
func with(l []api.Sight, i int, bend func(x *api.Sight)) []api.Sight {
	bend(&l[i])
	return l
}

// P21.2: of any two lists Same is what the words say.
func TestSameOfAny(t *testing.T) {
	roll := dice()
	count := map[bool]int{}
	for range 20000 {
		a, b := some(), some()
		for range roll(3) {
			i := roll(len(a))
			bend := bends[roll(len(bends))]
			bend(&a[i])
			if roll(2) == 0 {
				bend(&b[i])
			}
		}
		want := alike(a, b)
		sameOrNot(t, "any", want, a, b)
		count[want]++
	}
	if count[true] < 5000 || count[false] < 5000 {
		t.Error(count)
	}
}
