package hist

import (
	"math"
	"slices"
	"testing"

	"porthole/api"
	"porthole/fabric"
)

// dice roll numbers from 0 on, below n: the same ones in each run.
func dice() func(n int) int {
	state := uint64(17)
	return func(n int) int {
		state = state*6364136223846793005 + 1442695040888963407
		return int(state >> 33 % uint64(n))
	}
}

// rolledCalls are any sound calls of so many partitions, which do a step each in any order, one a moment, for so many moments: some calls are Done at once, some later, the last ones perhaps not at all; any calls are marked, some ring, and any calls Saw any Write that may be.
func rolledCalls(roll func(n int) int, parts, moments int) []api.Call {
	var l []api.Call
	at := make([]int, parts)    // the place of a partition's call, if one is under way
	steps := make([]int, parts) // how many steps a partition has done
	for p := range at {
		at[p] = -1
	}
	tick := 0
	for moment := roll(2); moment < moments; moment += 1 + roll(2) {
		tick += roll(2) * roll(3)
		p := roll(parts)
		steps[p]++
		if at[p] < 0 {
			at[p] = len(l)
			l = append(l, api.Call{Part: p, Req: api.Request{Op: rolledOp(roll), Port: roll(4), Data: make([]uint32, roll(3))}, From: moment, To: -1, T0: tick, T1: -1, Own0: steps[p], Own1: -1, Mark: -1, Ring: -1, Stamp: -1, Saw: -1})
		}
		x := &l[at[p]]
		switch roll(3) {
		case 0:
			if x.Mark < 0 && (x.Req.Op != read || roll(3) == 0) {
				x.Mark = moment
			}
		case 1:
			if x.Mark >= 0 && x.Mark < moment && x.Ring < 0 {
				x.Ring = moment
			}
		}
		if i := roll(len(l)); roll(2) == 0 && l[i].Req.Op == write && l[i].Mark >= 0 {
			x.Saw = i
		}
		if roll(4) == 0 {
			x.Done, x.Ans, x.To, x.T1, x.Own1 = true, api.Answer{Code: api.Errno(roll(7)), Data: make([]uint32, roll(3))}, moment, tick, steps[p]
			at[p] = -1
		}
	}
	return l
}

// rolledOp is a request's kind, most often a Write or a Read.
func rolledOp(roll func(n int) int) int { return []int{write, read, roll(11)}[roll(3)] }

// clauses are what the chapter says of calls that are sound, one by one, of the call at a place.
var clauses = []struct {
	name  string
	holds func(l []api.Call, i int) bool
}{
	{"From is 0 or more", func(l []api.Call, i int) bool { return l[i].From >= 0 }},
	{"From rises", func(l []api.Call, i int) bool { return i == 0 || l[i].From > l[i-1].From }},
	{"T0 is 0 or more", func(l []api.Call, i int) bool { return l[i].T0 >= 0 }},
	{"Own0 - 1 is 0 or more", func(l []api.Call, i int) bool { return l[i].Own0 > 0 }},
	{"To", func(l []api.Call, i int) bool { return asEnd(l[i].Done, l[i].From, l[i].To) }},
	{"T1", func(l []api.Call, i int) bool { return asEnd(l[i].Done, l[i].T0, l[i].T1) }},
	{"Own1", func(l []api.Call, i int) bool { return asEnd(l[i].Done, l[i].Own0, l[i].Own1) }},
	{"Mark is -1, or From or more", func(l []api.Call, i int) bool { return l[i].Mark == -1 || l[i].From <= l[i].Mark }},
	{"Mark is To or less", func(l []api.Call, i int) bool { return l[i].Mark == -1 || !l[i].Done || l[i].To >= l[i].Mark }},
	{"Ring is -1, or above Mark", func(l []api.Call, i int) bool { return l[i].Ring == -1 || l[i].Mark < l[i].Ring }},
	{"Ring is -1, or Mark 0 or more", func(l []api.Call, i int) bool { return l[i].Ring == -1 || 0 <= l[i].Mark }},
	{"Ring is To or less", func(l []api.Call, i int) bool { return l[i].Ring == -1 || !l[i].Done || l[i].To >= l[i].Ring }},
	{"the one before is Done", func(l []api.Call, i int) bool { return before(l, i) < 0 || l[before(l, i)].Done }},
	{"the one before is ahead", func(l []api.Call, i int) bool { return before(l, i) < 0 || l[before(l, i)].To < l[i].From }},
	{"the one before's T1", func(l []api.Call, i int) bool { return before(l, i) < 0 || l[before(l, i)].T1 <= l[i].T0 }},
	{"the one before's Own1", func(l []api.Call, i int) bool { return before(l, i) < 0 || l[i].Own0-l[before(l, i)].Own1 == 1 }},
	{"the first one's Own0", func(l []api.Call, i int) bool { return before(l, i) >= 0 || l[i].Own0 == 1 }},
	{"Saw is -1, or a place", func(l []api.Call, i int) bool { return l[i].Saw >= -1 && l[i].Saw < len(l) }},
	{"Saw's is a Write", func(l []api.Call, i int) bool { y, is := seen(l, i); return !is || y.Req.Op == write }},
	{"Saw's Mark is 0 or more", func(l []api.Call, i int) bool { y, is := seen(l, i); return !is || y.Mark >= 0 }},
	{"Saw's Mark is To or less", func(l []api.Call, i int) bool { y, is := seen(l, i); return !is || !l[i].Done || y.Mark <= l[i].To }},
}

func asEnd(done bool, begun, ended int) bool { return done && ended >= begun || !done && ended == -1 }

// before is the place of the call of the same partition with none of it between them, -1 if there is none.
func before(l []api.Call, i int) int {
	for k := i - 1; k >= 0; k-- {
		if l[k].Part == l[i].Part {
			return k
		}
	}
	return -1
}

// seen is the call that the one at a place Saw.
func seen(l []api.Call, i int) (api.Call, bool) {
	if k := l[i].Saw; k >= 0 && k < len(l) {
		return l[k], true
	}
	return api.Call{}, false
}

// broken are the names of the clauses that don't hold.
func broken(l []api.Call) (names []string) {
	for _, x := range clauses {
		for i := range l {
			if !x.holds(l, i) {
				names = append(names, x.name)
				break
			}
		}
	}
	return names
}

// numbers are all of a call's that soundness hangs on.
func numbers(x *api.Call) []*int {
	return []*int{&x.Part, &x.From, &x.To, &x.T0, &x.T1, &x.Own0, &x.Own1, &x.Mark, &x.Ring, &x.Saw, &x.Req.Op}
}

// bend changes something of calls: most often one number of one of them, to one close to it or to another number of these calls.
func bend(roll func(n int) int, l []api.Call) []api.Call {
	l = slices.Clone(l)
	if len(l) == 0 {
		return l
	}
	i := roll(len(l))
	x := &l[i]
	what := numbers(x)
	n := what[roll(len(what))]
	beside := numbers(&l[min(max(0, i+roll(5)-2), len(l)-1)])
	switch roll(9) {
	case 0:
		x.Done = !x.Done
	case 1:
		return slices.Delete(l, i, i+1)
	case 2:
		j := roll(len(l))
		l[i], l[j] = l[j], l[i]
	case 3:
		*n = []int{-1, 0, 1, -2, len(l), math.MinInt, math.MaxInt}[roll(7)]
	case 4, 5:
		*n += 1 - 2*roll(2)
	default:
		*n = *beside[roll(len(beside))] + roll(3) - 1
	}
	return l
}

// P17.1: Sound answers what the chapter's clauses say, one by one, of any sound calls, and of the same with something changed; each clause is now and then the only one that doesn't hold.
func TestClauseByClause(t *testing.T) {
	roll := dice()
	alone := map[string]int{}
	still := 0
	for range 1500 {
		l := rolledCalls(roll, 1+roll(5), 1+roll(60))
		if names := broken(l); len(names) > 0 || !Sound(l...) {
			t.Fatalf("%v, of %+v", names, l)
		}
		for range 60 {
			bent := bend(roll, l)
			for range roll(2) * roll(3) {
				bent = bend(roll, bent)
			}
			names := broken(bent)
			if got := Sound(bent...); got != (len(names) == 0) {
				t.Fatalf("%v, but %v, of %+v", got, names, bent)
			}
			if len(names) == 1 {
				alone[names[0]]++
			}
			if len(names) == 0 {
				still++
			}
		}
	}
	for _, x := range clauses {
		// An Own0 of 0 doesn't go with an Own1 that is 0 or more, nor an Own1 of -1 with an Own0 of 1 or more: these two break others too.
		if x.name != "Own0 - 1 is 0 or more" && x.name != "the one before is Done" && alone[x.name] < 20 {
			t.Error(x.name, alone[x.name])
		}
	}
	if still < 1000 {
		t.Error(still)
	}
}

// placeAnew is the place of a call's effect, by the chapter's words.
func placeAnew(l []api.Call, i int) (int, bool, bool) {
	if i < 0 || i > len(l)-1 {
		return 0, false, false
	}
	if l[i].Mark > -1 {
		return l[i].Mark, false, true
	}
	if !l[i].Done || l[i].Req.Op != read {
		return 0, false, false
	}
	at := l[i].From
	if y, is := seen(l, i); is && y.Mark > at {
		at = y.Mark
	}
	return at, true, true
}

// P17.2: of any sound calls each one's place is what the chapter's words say; it lies between its From and its To.
func TestPlaceOfAnyCalls(t *testing.T) {
	roll := dice()
	count := map[string]int{}
	for range 3000 {
		l := rolledCalls(roll, 1+roll(5), roll(90))
		for i := -2; i < len(l)+2; i++ {
			at, behind, is := Place(l, i)
			wantAt, wantBehind, want := placeAnew(l, i)
			if at != wantAt || behind != wantBehind || is != want {
				t.Fatalf("%d: %d, %v, %v instead of %d, %v, %v, of %+v", i, at, behind, is, wantAt, wantBehind, want, l)
			}
			switch {
			case i < 0 || i >= len(l):
				count["beyond"]++
				continue
			case !is:
				count["none"]++
				continue
			case !behind:
				count["at its Mark"]++
			case l[i].Saw < 0:
				count["behind its From, nothing seen"]++
			case l[l[i].Saw].Mark > l[i].From:
				count["behind the other one's Mark"]++
			default:
				count["behind its From"]++
			}
			if at < l[i].From || l[i].Done && at > l[i].To {
				t.Fatalf("%d: %d, of %+v", i, at, l[i])
			}
		}
	}
	for _, what := range []string{"beyond", "none", "at its Mark", "behind its From, nothing seen", "behind the other one's Mark", "behind its From"} {
		if count[what] < 100 {
			t.Error(what, count[what])
		}
	}
}

// told are the calls that a machine tells of itself.
func told(f *fabric.Fabric) (l []api.Call) {
	for _, x := range f.Calls() {
		l = append(l, x)
	}
	return l
}

// config are three partitions, two of them on one core, which take turns, with channels of both kinds in several directions.
func config(roll func(n int) int) api.Config {
	c := api.Config{
		Parts: []api.Part{{Core: 0, Private: 2}, {Core: 1, Private: 1}, {Core: 1, Private: 0}},
		Chans: []api.Chan{
			{Kind: api.Sampling, From: 0, To: 1, Words: 1 + roll(3), Period: roll(9)},
			{Kind: api.Queuing, From: 0, To: 1, Words: 2, Depth: 1 << roll(3), Boot: math.MaxUint32},
			{Kind: api.Sampling, From: 2, To: 0, Words: 1, Period: 4},
			{Kind: api.Queuing, From: 1, To: 2, Words: 1, Depth: 2},
		},
	}
	c.Frames[0] = api.Frame{Length: 1 + roll(3), Windows: []api.Window{{Part: 0, Start: 0, Len: 1}}}
	c.Frames[1] = api.Frame{Length: 4, Windows: []api.Window{{Part: 1, Start: 0, Len: 1 + roll(3)}, {Part: 2, Start: 3, Len: 1}}}
	return c
}

// streams are of these: ports are made most often, and requests most often not refused.
func streams(roll func(n int) int) [][]api.Request {
	ports := [][]int{{0, 2, 5}, {1, 3, 6}, {4, 7}}
	ops := map[int]int{0: write, 1: read, 2: send, 3: receive, 4: write, 5: read, 6: send, 7: receive}
	var all [][]api.Request
	for p := range ports {
		var l []api.Request
		for _, port := range ports[p] {
			if roll(8) > 0 {
				l = append(l, api.Request{Op: create, Port: port})
			}
		}
		l = append(l, api.Request{Op: normal})
		for range roll(50) {
			port := ports[p][roll(len(ports[p]))]
			r := api.Request{Op: ops[port], Port: port}
			switch roll(6) {
			case 0:
				r.Op = rolledOp(roll)
			case 1:
				r.Op = status
			}
			if r.Op == write || r.Op == send || r.Op == poke {
				r.Data = []uint32{uint32(roll(99))}
			}
			l = append(l, r)
		}
		all = append(all, l)
	}
	return all
}

// P17.1 to P17.3: the calls that a machine tells of itself are sound, behind each act; so of any two calls of one partition the one is ahead of the other one; and each one's effect is within it, no more than a Read's without a Mark.
func TestMachinesCalls(t *testing.T) {
	roll := dice()
	count := map[string]int{}
	for range 60 {
		f, k := fabric.New(config(roll), streams(roll)...)
		if k != 0 {
			t.Fatal(k)
		}
		if !Sound(told(f)...) {
			t.Fatal("ahead of all acts")
		}
		for range 500 {
			f.Do([]int{0, 1, 0, 1, 0, 1, 0, 1, 0, 1, 2, roll(3)}[roll(12)])
			l := told(f)
			if names := broken(l); !Sound(l...) || len(names) > 0 {
				t.Fatalf("%v, of %+v", names, l)
			}
		}
		l := told(f)
		for p := range 3 {
			last := -1
			for i, x := range Of(l, p) {
				if last >= 0 && (!Ahead(l[last], x) || Ahead(x, l[last])) {
					t.Fatalf("%+v and %+v", l[last], x)
				}
				last = i
			}
		}
		for i, x := range l {
			count[tells(l, x)]++
			at, behind, is := Place(l, i)
			if wantAt, wantBehind, want := placeAnew(l, i); at != wantAt || behind != wantBehind || is != want {
				t.Fatalf("%d: %d, %v, %v, of %+v", i, at, behind, is, x)
			}
		}
	}
	for _, x := range []string{"under way", "under way, marked", "Read that found nothing", "Read of a Write that began later", "Read of a Write that isn't answered", "Read", "marked", "rang"} {
		if count[x] < 5 {
			t.Error(x, count[x])
		}
	}
	if t.Failed() {
		t.Log(count)
	}
}

// tells is of what kind a machine's call is.
func tells(l []api.Call, x api.Call) string {
	switch {
	case !x.Done && x.Mark >= 0:
		return "under way, marked"
	case !x.Done:
		return "under way"
	case x.Saw >= 0 && l[x.Saw].From > x.From:
		return "Read of a Write that began later"
	case x.Saw >= 0 && !Ahead(l[x.Saw], x):
		return "Read of a Write that isn't answered"
	case x.Saw >= 0:
		return "Read"
	case x.Req.Op == read && x.Ans.Code == api.NoAction:
		return "Read that found nothing"
	case x.Ring >= 0:
		return "rang"
	case x.Mark >= 0:
		return "marked"
	}
	return "without a Mark"
}

// P17.2, and W4 as far as it hangs on this layer: a write and a read in the midst of each other, in each way in which the write's and the read's steps can follow each other: the read's effect is right behind the Mark of the write that it found, or behind its own beginning, and never beyond its end.
func TestWriteAndReadInTheMidst(t *testing.T) {
	c := api.Config{
		Parts:  []api.Part{{Core: 0}, {Core: 1}},
		Chans:  []api.Chan{{Kind: api.Sampling, From: 0, To: 1, Words: 1, Period: 3}},
		Frames: [2]api.Frame{{Length: 1, Windows: []api.Window{{Part: 0, Len: 1}}}, {Length: 1, Windows: []api.Window{{Part: 1, Len: 1}}}},
	}
	later := 0
	for picks := range 1 << 14 {
		f, _ := fabric.New(c,
			[]api.Request{{Op: create, Port: 0}, {Op: normal}, {Op: write, Port: 0, Data: []uint32{5}}, {Op: write, Port: 0, Data: []uint32{6}}},
			[]api.Request{{Op: create, Port: 1}, {Op: normal}, {Op: read, Port: 1}})
		f.Run(0, 0, 1, 1)
		f.Run(0, 0, 0, 0, 0, 0, 0, 0)
		for i := range 14 {
			f.Do(picks >> i & 1)
		}
		f.Run(1, 1, 1, 1, 1, 1, 1)
		l := told(f)
		i := slices.IndexFunc(l, func(x api.Call) bool { return x.Req.Op == read })
		if !Sound(l...) || i < 0 || !l[i].Done || l[i].Saw < 0 {
			t.Fatalf("%+v", l)
		}
		x, w := l[i], l[l[i].Saw]
		at, behind, is := Place(l, i)
		if at != max(x.From, w.Mark) || !behind || !is || at > x.To {
			t.Fatalf("%d, %v, %v, of %+v", at, behind, is, l)
		}
		if w.Mark > x.From {
			later++
		}
		for j, y := range l {
			if y.Req.Op != write || y.Mark < 0 {
				continue
			}
			if moment, behind, is := Place(l, j); moment != y.Mark || behind || !is {
				t.Fatalf("%d, %v, %v, of %+v", moment, behind, is, y)
			}
			// No other write's effect lies between the one that was found and the read's.
			if y.Mark > w.Mark && y.Mark <= at {
				t.Fatalf("%d, of %+v", at, l)
			}
		}
	}
	if later < 100 {
		t.Error(later)
	}
}
