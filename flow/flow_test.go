package flow

import (
	"iter"
	"math"
	"slices"
	"testing"

	"porthole/api"
	"porthole/defect"
)

// The calls have the chapter's signatures.
var (
	_ func(api.Config) iter.Seq2[int, int]             = Edges
	_ func(api.Config, int) []int                      = Into
	_ func([]api.Call, []api.Belling, int) []api.Sight = View
	_ func([]api.Sight, []api.Sight) bool              = Same
)

// The document's kinds of sights and channels, codes, requests and acts, told anew, so that a wrong one in the package is found.
const (
	isBegun     = 1
	isAnswered  = 2
	isDelivered = 3

	sampling = 1
	queuing  = 2

	ok           = 0
	noAction     = 1
	notAvailable = 2
	invalidMode  = 5

	create  = 1
	normal  = 2
	write   = 3
	read    = 4
	send    = 5
	receive = 6
	status  = 7
	peek    = 8
	poke    = 9

	pick0 = 0
	pick1 = 1
	tick  = 2
)

// none is in place of a tick, or a step, where there is none.
const none = -1

// edge is one: from where, to where.
type edge struct{ from, to int }

// parts are so many partitions, by turns on core 0 and on core 1, each with a window of one tick, and channels.
func parts(n int, chans ...api.Chan) api.Config {
	c := api.Config{Chans: chans, Frames: [2]api.Frame{{Length: 3}, {Length: 3}}}
	for p := range n {
		c.Parts = append(c.Parts, api.Part{Core: p % 2, Private: p})
		f := &c.Frames[p%2]
		f.Windows = append(f.Windows, api.Window{Part: p, Start: p / 2, Len: 1})
	}
	return c
}

func sample(from, to int) api.Chan {
	return api.Chan{Kind: sampling, From: from, To: to, Words: 2, Period: 3}
}

func queue(from, to int) api.Chan {
	return api.Chan{Kind: queuing, From: from, To: to, Words: 1, Depth: 2, Boot: 9}
}

// accepted tells a fault unless a configuration is.
func accepted(t *testing.T, c api.Config) {
	t.Helper()
	if !defect.Accepts(c) {
		t.Fatalf("defect %d of %+v", defect.First(c), c)
	}
}

// told are all edges of an iterator.
func told(it iter.Seq2[int, int]) (l []edge) {
	for from, to := range it {
		l = append(l, edge{from, to})
	}
	return l
}

// edges tells a fault unless these are a configuration's edges, once and again.
func edges(t *testing.T, what string, c api.Config, want ...edge) {
	t.Helper()
	accepted(t, c)
	it := Edges(c)
	if it == nil {
		t.Fatalf("%s: no iterator", what)
	}
	for range 2 {
		if got := told(it); !slices.Equal(got, want) {
			t.Fatalf("%s: %v instead of %v, of %+v", what, got, want, c.Chans)
		}
	}
}

// P21.1: from where, to where, of each edge, channel by channel.
func TestEdges(t *testing.T) {
	edges(t, "no channels", parts(2))
	edges(t, "one partition", parts(1))
	edges(t, "sampling", parts(2, sample(0, 1)), edge{0, 1})
	edges(t, "sampling, the other way", parts(2, sample(1, 0)), edge{1, 0})
	edges(t, "a queue", parts(2, queue(0, 1)), edge{0, 1}, edge{1, 0})
	edges(t, "a queue, the other way", parts(2, queue(1, 0)), edge{1, 0}, edge{0, 1})
	edges(t, "numbers far apart", parts(6, queue(5, 2), sample(3, 5)), edge{5, 2}, edge{2, 5}, edge{3, 5})
	edges(t, "two between the same two, sampling", parts(2, sample(0, 1), sample(0, 1)), edge{0, 1}, edge{0, 1})
	edges(t, "two there and back, sampling", parts(2, sample(1, 0), sample(0, 1)), edge{1, 0}, edge{0, 1})
	edges(t, "two queues between the same two", parts(2, queue(0, 1), queue(0, 1)), edge{0, 1}, edge{1, 0}, edge{0, 1}, edge{1, 0})
	edges(t, "one of each kind between the same two", parts(2, sample(0, 1), queue(0, 1)), edge{0, 1}, edge{0, 1}, edge{1, 0})
	edges(t, "one of each kind, the other way round", parts(2, queue(0, 1), sample(0, 1)), edge{0, 1}, edge{1, 0}, edge{0, 1})
	edges(t, "channel by channel, not by numbers", parts(4, sample(3, 0), queue(1, 2), sample(2, 3), queue(3, 1), sample(0, 3)),
		edge{3, 0}, edge{1, 2}, edge{2, 1}, edge{2, 3}, edge{3, 1}, edge{1, 3}, edge{0, 3})
	var chans []api.Chan
	var want []edge
	for k := range api.MaxChans {
		chans = append(chans, queue(k%3, k%3+1))
		want = append(want, edge{k % 3, k%3 + 1}, edge{k%3 + 1, k % 3})
	}
	edges(t, "as many as may be", parts(4, chans...), want...)
}

// P21.1: whatever else a channel is, its edges hang on its Kind, its From and its To alone.
func TestEdgesOfAnyChannel(t *testing.T) {
	for _, words := range []int{1, 2, 16} {
		for _, period := range []int{0, 1, 2, 1 << 20} {
			edges(t, "sampling", parts(3, api.Chan{Kind: sampling, From: 2, To: 1, Words: words, Period: period}), edge{2, 1})
		}
		for _, depth := range []int{1, 2, 4, 8} {
			for _, boot := range []uint32{0, 1, math.MaxUint32} {
				edges(t, "a queue", parts(3, api.Chan{Kind: queuing, From: 2, To: 1, Words: words, Depth: depth, Boot: boot}), edge{2, 1}, edge{1, 2})
			}
		}
	}
}

// P21.1, R6: Edges left behind any of its edges tells nothing more, and all from its beginning on when it is gone through anew.
func TestEdgesLeft(t *testing.T) {
	c := parts(4, sample(3, 0), queue(1, 2), sample(2, 3), queue(3, 1))
	want := []edge{{3, 0}, {1, 2}, {2, 1}, {2, 3}, {3, 1}, {1, 3}}
	it := Edges(c)
	for n := 1; n <= len(want); n++ {
		var got []edge
		it(func(from, to int) bool {
			got = append(got, edge{from, to})
			return len(got) < n
		})
		if !slices.Equal(got, want[:n]) {
			t.Fatalf("left behind %d: %v", n, got)
		}
		if got := told(it); !slices.Equal(got, want) {
			t.Fatalf("behind one that was left behind %d: %v", n, got)
		}
	}
	// From within itself, too.
	for range it {
		if got := told(it); !slices.Equal(got, want) {
			t.Fatalf("from within: %v", got)
		}
	}
}

// into tells a fault unless these partitions lead into p, once and again.
func into(t *testing.T, what string, c api.Config, p int, want ...int) {
	t.Helper()
	accepted(t, c)
	for range 2 {
		if got := Into(c, p); !slices.Equal(got, want) {
			t.Fatalf("%s: into %d: %v instead of %v, of %+v", what, p, got, want, c.Chans)
		}
	}
}

// P21.1: nobody but the partition itself, if there are no channels.
func TestIntoWithoutChannels(t *testing.T) {
	for n := 2; n <= api.MaxParts; n++ {
		for p := range n {
			into(t, "no channels", parts(n), p, p)
		}
	}
	into(t, "one partition", parts(1), 0, 0)
}

// P21.1: by one edge: a sampling channel's leads one way, a queue's both ways.
func TestIntoByOneEdge(t *testing.T) {
	// The chapter's example.
	into(t, "sampling", parts(2, sample(0, 1)), 1, 0, 1)
	into(t, "sampling", parts(2, sample(0, 1)), 0, 0)
	into(t, "a queue", parts(2, queue(0, 1)), 1, 0, 1)
	into(t, "a queue", parts(2, queue(0, 1)), 0, 0, 1)

	for from := range 6 {
		for to := range 6 {
			if from == to {
				continue
			}
			both := []int{min(from, to), max(from, to)}
			into(t, "sampling, its end", parts(6, sample(from, to)), to, both...)
			into(t, "sampling, its beginning", parts(6, sample(from, to)), from, from)
			into(t, "a queue, its end", parts(6, queue(from, to)), to, both...)
			into(t, "a queue, its beginning", parts(6, queue(from, to)), from, both...)
			into(t, "two channels, one of each kind", parts(6, sample(from, to), queue(from, to)), from, both...)
			into(t, "two sampling, one way", parts(6, sample(from, to), sample(from, to)), from, from)
			into(t, "two sampling, both ways", parts(6, sample(from, to), sample(to, from)), from, both...)
			for p := range 6 {
				if p != from && p != to {
					into(t, "of others", parts(6, queue(from, to)), p, p)
				}
			}
		}
	}
}

// P21.1: through one, two and three partitions, and more, whichever way round the channels stand.
func TestIntoThroughOthers(t *testing.T) {
	line := []api.Chan{sample(4, 2), sample(2, 5), sample(5, 0), sample(0, 3), sample(3, 1)}
	// How many of the line's channels there are, and who leads into its end.
	for n, x := range []struct {
		end  int
		want []int
	}{{4, []int{4}}, {2, []int{2, 4}}, {5, []int{2, 4, 5}}, {0, []int{0, 2, 4, 5}}, {3, []int{0, 2, 3, 4, 5}}, {1, []int{0, 1, 2, 3, 4, 5}}} {
		chans := slices.Clone(line[:n])
		for _, l := range everyWay(chans) {
			into(t, "a line", parts(6, l...), x.end, x.want...)
			into(t, "a line's beginning", parts(6, l...), 4, 4)
		}
		// What comes behind its end makes no difference.
		into(t, "the whole line", parts(6, line...), x.end, x.want...)
		slices.Reverse(chans)
		for i := range chans {
			chans[i].From, chans[i].To = chans[i].To, chans[i].From
		}
		into(t, "a line that is turned round, its end", parts(6, chans...), x.end, x.end)
		into(t, "a line that is turned round", parts(6, chans...), 4, x.want...)
	}
	// One queue on the way lets its end lead to its beginning, but not to what is ahead of that.
	for _, l := range everyWay([]api.Chan{sample(0, 1), queue(1, 2), sample(2, 3)}) {
		c := parts(4, l...)
		into(t, "a queue in a line", c, 0, 0)
		into(t, "a queue in a line", c, 1, 0, 1, 2)
		into(t, "a queue in a line", c, 2, 0, 1, 2)
		into(t, "a queue in a line", c, 3, 0, 1, 2, 3)
	}
}

// everyWay are all lists of the same channels.
func everyWay(chans []api.Chan) [][]api.Chan {
	if len(chans) == 0 {
		return [][]api.Chan{nil}
	}
	var l [][]api.Chan
	for i, x := range chans {
		others := slices.Delete(slices.Clone(chans), i, i+1)
		for _, y := range everyWay(others) {
			l = append(l, append(y, x))
		}
	}
	return l
}

// P21.1: a ring of channels: all lead into all; of a ring that isn't whole they don't.
func TestIntoInARing(t *testing.T) {
	for n := 2; n <= 6; n++ {
		var all []int
		var ring, queues []api.Chan
		for p := range n {
			all = append(all, p)
			ring = append(ring, sample(p, (p+1)%n))
			queues = append(queues, queue(p, (p+1)%n))
		}
		for p := range n {
			into(t, "a ring", parts(n, ring...), p, all...)
			into(t, "a ring without its last channel", parts(n, ring[:n-1]...), p, all[:p+1]...)
			into(t, "queues without the last one", parts(n, queues[:n-1]...), p, all...)
			slices.Reverse(ring)
			into(t, "a ring, its channels the other way round", parts(n, ring...), p, all...)
			slices.Reverse(ring)
			into(t, "of more partitions", parts(6, ring...), p, all...)
		}
	}
	// Two rings, the first of which leads into the second one.
	c := parts(6, sample(0, 2), sample(2, 4), sample(4, 0), sample(1, 3), sample(3, 5), sample(5, 1), sample(4, 1))
	for p := range 6 {
		if p%2 == 0 {
			into(t, "two rings", c, p, 0, 2, 4)
		} else {
			into(t, "two rings", c, p, 0, 1, 2, 3, 4, 5)
		}
	}
}

// P21.1: nobody leads into a partition that there isn't.
func TestIntoNone(t *testing.T) {
	for n := 2; n <= 6; n++ {
		for _, c := range []api.Config{parts(n), parts(n, sample(0, 1)), parts(n, queue(n-1, 0), sample(1, 0))} {
			into(t, "the one behind the last one", c, n)
			into(t, "the one behind that", c, n+1)
			into(t, "as many as may be", c, api.MaxParts)
			for _, p := range append([]int{-1, -2, -n}, far...) {
				into(t, "no partition", c, p)
			}
		}
	}
	// None (nil), or an empty list: no partition either way.
	if got := Into(parts(2, queue(0, 1)), -1); len(got) != 0 {
		t.Error(got)
	}
}

// leadsInto tells whether one partition leads into another one in so many steps at most, by the chapter's words.
func leadsInto(c api.Config, from, p, steps int) bool {
	if from == p {
		return true
	}
	if steps == 0 {
		return false
	}
	for _, x := range c.Chans {
		if x.From == from && leadsInto(c, x.To, p, steps-1) || x.Kind == queuing && x.To == from && leadsInto(c, x.From, p, steps-1) {
			return true
		}
	}
	return false
}

// intoAll tells a fault unless those that lead into each partition are what the chapter's words say; it answers how many do.
func intoAll(t *testing.T, c api.Config) int {
	t.Helper()
	n := 0
	for p := range c.Parts {
		var want []int
		for from := range c.Parts {
			if leadsInto(c, from, p, len(c.Parts)-1) {
				want = append(want, from)
			}
		}
		into(t, "any", c, p, want...)
		n += len(want)
	}
	return n
}

// P21.1: of all lists of up to three channels between three partitions.
func TestIntoOfThree(t *testing.T) {
	var some []api.Chan
	for from := range 3 {
		for to := range 3 {
			if from != to {
				some = append(some, sample(from, to), queue(from, to))
			}
		}
	}
	var each func(chans []api.Chan)
	each = func(chans []api.Chan) {
		intoAll(t, parts(3, chans...))
		if len(chans) == 3 {
			return
		}
		for _, x := range some {
			each(append(slices.Clone(chans), x))
		}
	}
	each(nil)
}

// P21.1: of any channels between up to six partitions.
func TestIntoOfAny(t *testing.T) {
	roll := dice()
	count := map[int]int{}
	for range 1500 {
		c := parts(2 + roll(5))
		for range roll(9) {
			from := roll(len(c.Parts))
			to := (from + 1 + roll(len(c.Parts)-1)) % len(c.Parts)
			c.Chans = append(c.Chans, []api.Chan{sample(from, to), sample(from, to), queue(from, to)}[roll(3)])
		}
		count[intoAll(t, c)]++
	}
	if len(count) < 25 {
		t.Error(count)
	}
}
