package layout

import (
	"iter"
	"math"
	"reflect"
	"slices"
	"testing"

	"porthole/api"
	"porthole/defect"
	"porthole/span"
)

// The calls have the chapter's signatures.
var (
	_ func(api.Config) int                     = Size
	_ func(api.Config, int) api.Span           = Private
	_ func(api.Config, int) api.Span           = Source
	_ func(api.Config, int) api.Span           = Dest
	_ func(api.Config) iter.Seq[api.Span]      = All
	_ func(api.Config, int, int, int) api.Span = Buffer
	_ func(api.Config, int, int) api.Span      = Cell
	_ func(api.Config, int, int) bool          = May
)

// The document's bounds and the kinds of channels, told anew, so that a wrong one in the package is found.
const (
	maxParts   = 6
	maxPrivate = 64
	maxChans   = 8
	maxWords   = 16
	maxDepth   = 8
	sampling   = 1
	queuing    = 2
	defects    = 17
)

// far are numbers below and above all that may be; doubled, or taken a few times, some of them wrap round to one that may be.
var far = []int{
	-1, -2, -3, -8, -255, -256, math.MinInt32, -1 << 32, -1<<32 + 1, -1 << 60, -1 << 61, -1 << 62, -1<<62 + 1, math.MinInt, math.MinInt + 1, math.MinInt + 2,
	9, 16, 64, 255, 256, 257, 1 << 16, math.MaxInt32, math.MaxInt32 + 1, 1<<32 - 1, 1 << 32, 1<<32 + 1, 1 << 60, 1 << 61, 1 << 62, 1<<62 + 1, math.MaxInt - 1, math.MaxInt,
}

func of(from, size int) api.Span { return api.Span{From: from, Size: size} }

func sample(from, to, words int) api.Chan {
	return api.Chan{Kind: sampling, From: from, To: to, Words: words, Period: 7}
}

func queue(from, to, words, depth int) api.Chan {
	return api.Chan{Kind: queuing, From: from, To: to, Words: words, Depth: depth, Boot: 9}
}

// config is of partitions with so many private words each, on both cores in turn, and of these channels.
func config(private []int, chans ...api.Chan) api.Config {
	c := api.Config{Chans: chans, Frames: [2]api.Frame{{Length: 8}, {Length: 8}}}
	for p, n := range private {
		c.Parts = append(c.Parts, api.Part{Core: p % 2, Private: n})
		f := &c.Frames[p%2]
		f.Windows = append(f.Windows, api.Window{Part: p, Start: p, Len: 1})
	}
	return c
}

// mixed has channels of both kinds beside each other, of few words and of many, and a partition without private words.
func mixed() api.Config {
	return config([]int{2, 0, 3}, sample(0, 1, 1), queue(1, 2, 3, 2), sample(2, 0, 16), queue(1, 0, 16, 1))
}

// full has as much of all as there may be: eight queues.
func full() api.Config {
	var l []api.Chan
	for k := range maxChans {
		l = append(l, queue(k%maxParts, (k+1)%maxParts, maxWords, maxDepth))
	}
	return config(slices.Repeat([]int{maxPrivate}, maxParts), l...)
}

// samples is full, but with eight sampling channels.
func samples() api.Config {
	c := full()
	for k, ch := range c.Chans {
		c.Chans[k] = sample(ch.From, ch.To, maxWords)
	}
	return c
}

// plan is a layout that was written down word by word: whose each word is, and the spans that come of it.
type plan struct {
	owner                      []int
	all, private, source, dest []api.Span
	buffers                    map[[3]int]api.Span
	cells                      map[[2]int]api.Span
}

// word writes down one more word of partition p.
func (l *plan) word(p int) { l.owner = append(l.owner, p) }

// span is what is written down by it.
func (l *plan) span(write func()) api.Span {
	from := len(l.owner)
	write()
	return of(from, len(l.owner)-from)
}

// message writes down a buffer, or a cell: what stands at its top, and its words.
func (l *plan) message(ch api.Chan, top int) api.Span {
	return l.span(func() {
		for range top + ch.Words {
			l.word(ch.From)
		}
	})
}

func (l *plan) sampling(k int, ch api.Chan) {
	for range []string{"latest", "slot 0", "slot 1"} {
		l.word(ch.From)
	}
	for _, x := range [][2]int{{0, 0}, {0, 1}, {1, 0}, {1, 1}} {
		l.buffers[[3]int{k, x[0], x[1]}] = l.message(ch, len([]string{"length", "stamp"}))
	}
}

func (l *plan) queuing(k int, ch api.Chan) {
	for range []string{"tail"} {
		l.word(ch.From)
	}
	for i := range ch.Depth {
		l.cells[[2]int{k, i}] = l.message(ch, len([]string{"length"}))
	}
}

// planned is the layout of an accepted configuration, by the chapter's words.
func planned(c api.Config) *plan {
	l := &plan{buffers: map[[3]int]api.Span{}, cells: map[[2]int]api.Span{}}
	for p, part := range c.Parts {
		s := l.span(func() {
			for range part.Private {
				l.word(p)
			}
		})
		l.private, l.all = append(l.private, s), append(l.all, s)
	}
	for k, ch := range c.Chans {
		source := l.span(func() {
			if ch.Kind == sampling {
				l.sampling(k, ch)
			} else {
				l.queuing(k, ch)
			}
		})
		dest := l.span(func() { l.word(ch.To) })
		l.source, l.dest, l.all = append(l.source, source), append(l.dest, dest), append(l.all, source, dest)
	}
	return l
}

// place is a list's place n; the zero span, if there isn't one.
func place(l []api.Span, n int) api.Span {
	if n < 0 || n >= len(l) {
		return api.Span{}
	}
	return l[n]
}

// near are the numbers below n, and some beside them, and far ones.
func near(n int) []int {
	l := slices.Clone(far)
	for i := range n + 3 {
		l = append(l, i)
	}
	return l
}

// laid tells a fault unless seven calls answer what is planned for an accepted configuration, at all numbers that there are and beside them.
func laid(t *testing.T, c api.Config, want *plan) {
	t.Helper()
	if !defect.Accepts(c) {
		t.Fatalf("isn't accepted: %v", c)
	}
	if got := Size(c); got != len(want.owner) {
		t.Errorf("size: %d instead of %d, of %v", got, len(want.owner), c)
	}
	if got := slices.Collect(All(c)); !slices.Equal(got, want.all) {
		t.Errorf("all: %v instead of %v, of %v", got, want.all, c)
	}
	for _, p := range near(len(c.Parts)) {
		if got := Private(c, p); got != place(want.private, p) {
			t.Errorf("private %d: %v instead of %v, of %v", p, got, place(want.private, p), c)
		}
	}
	for _, k := range near(len(c.Chans)) {
		if got := Source(c, k); got != place(want.source, k) {
			t.Errorf("source %d: %v instead of %v, of %v", k, got, place(want.source, k), c)
		}
		if got := Dest(c, k); got != place(want.dest, k) {
			t.Errorf("dest %d: %v instead of %v, of %v", k, got, place(want.dest, k), c)
		}
	}
	for k := -1; k <= len(c.Chans); k++ {
		laidWithin(t, c, k, want)
	}
}

// laidWithin holds the buffers and the cells of channel k against what is planned.
func laidWithin(t *testing.T, c api.Config, k int, want *plan) {
	t.Helper()
	for pair := -2; pair <= 4; pair++ {
		for index := -2; index <= 4; index++ {
			if got, due := Buffer(c, k, pair, index), want.buffers[[3]int{k, pair, index}]; got != due {
				t.Errorf("buffer %d %d %d: %v instead of %v, of %v", k, pair, index, got, due, c)
			}
		}
	}
	for i := -2; i <= maxDepth+2; i++ {
		if got, due := Cell(c, k, i), want.cells[[2]int{k, i}]; got != due {
			t.Errorf("cell %d %d: %v instead of %v, of %v", k, i, got, due, c)
		}
	}
}

// owned tells a fault unless May answers at each address, and beside them all, what is planned, of each partition and beside them.
func owned(t *testing.T, c api.Config, want *plan) {
	t.Helper()
	for p := -1; p <= len(c.Parts); p++ {
		for at := -2; at <= len(want.owner)+2; at++ {
			due := at >= 0 && at < len(want.owner) && want.owner[at] == p
			if got := May(c, p, at); got != due {
				t.Errorf("may %d %d: %v instead of %v, of %v", p, at, got, due, c)
			}
		}
	}
}

// stands holds all eight calls against what is planned for c.
func stands(t *testing.T, c api.Config) {
	t.Helper()
	want := planned(c)
	laid(t, c, want)
	owned(t, c, want)
}

// empty tells a fault unless all eight calls answer that there is nothing.
func empty(t *testing.T, c api.Config) {
	t.Helper()
	// Such a configuration may be far too long to be told whole.
	why := slices.Collect(defect.All(c))
	if got := Size(c); got != 0 {
		t.Errorf("size %d, of defects %v", got, why)
	}
	for s := range All(c) {
		t.Fatalf("span %v, of defects %v", s, why)
	}
	numbers := append([]int{0, 1, 2, 3, 4, 5, 6, 7, 8}, far...)
	for _, n := range numbers {
		for _, s := range []api.Span{Private(c, n), Source(c, n), Dest(c, n), Buffer(c, n, 0, 0), Buffer(c, 0, n, 1), Buffer(c, 2, 1, n), Buffer(c, n, n, n), Cell(c, n, 0), Cell(c, 1, n), Cell(c, n, n)} {
			if s != (api.Span{}) {
				t.Fatalf("span %v, of %d, of defects %v", s, n, why)
			}
		}
		for _, at := range numbers {
			if May(c, n, at) {
				t.Fatalf("may %d %d, of defects %v", n, at, why)
			}
		}
	}
}

// The chapter's example.
func TestExample(t *testing.T) {
	c := config([]int{4, 0}, queue(0, 1, 3, 2))
	if got := Source(c, 0); got != of(4, 9) {
		t.Error(got)
	}
	if got := Cell(c, 0, 1); got != of(9, 4) {
		t.Error(got)
	}
	if got := Dest(c, 0); got != of(13, 1) {
		t.Error(got)
	}
	if got := Size(c); got != 14 {
		t.Error(got)
	}
	stands(t, c)
}

// The document's examples of the whole: address 1 is partition 0's, address 2 is 1's.
func TestExamplesOfTheWhole(t *testing.T) {
	for _, ch := range []api.Chan{queue(0, 1, 1, 1), sample(0, 1, 2)} {
		c := config([]int{2, 1}, ch)
		if !May(c, 0, 1) || May(c, 0, 2) || May(c, 1, 1) || !May(c, 1, 2) {
			t.Error(c)
		}
		stands(t, c)
	}
}

// P8.1: each span of a layout of channels of both kinds, told by its numbers.
func TestMixed(t *testing.T) {
	c := mixed()
	if got := Size(c); got != 126 {
		t.Error("size:", got)
	}
	for p, want := range []api.Span{of(0, 2), of(2, 0), of(2, 3)} {
		if got := Private(c, p); got != want {
			t.Error("private:", p, got)
		}
	}
	for k, want := range []api.Span{of(5, 15), of(21, 9), of(31, 75), of(107, 18)} {
		if got := Source(c, k); got != want {
			t.Error("source:", k, got)
		}
	}
	for k, want := range []api.Span{of(20, 1), of(30, 1), of(106, 1), of(125, 1)} {
		if got := Dest(c, k); got != want {
			t.Error("dest:", k, got)
		}
	}
	all := []api.Span{of(0, 2), of(2, 0), of(2, 3), of(5, 15), of(20, 1), of(21, 9), of(30, 1), of(31, 75), of(106, 1), of(107, 18), of(125, 1)}
	if got := slices.Collect(All(c)); !slices.Equal(got, all) {
		t.Error("all:", got)
	}
	for _, x := range []struct {
		k, pair, index int
		want           api.Span
	}{
		{0, 0, 0, of(8, 3)}, {0, 0, 1, of(11, 3)}, {0, 1, 0, of(14, 3)}, {0, 1, 1, of(17, 3)},
		{2, 0, 0, of(34, 18)}, {2, 0, 1, of(52, 18)}, {2, 1, 0, of(70, 18)}, {2, 1, 1, of(88, 18)},
	} {
		if got := Buffer(c, x.k, x.pair, x.index); got != x.want {
			t.Error("buffer:", x, got)
		}
	}
	for _, x := range []struct {
		k, i int
		want api.Span
	}{{1, 0, of(22, 4)}, {1, 1, of(26, 4)}, {3, 0, of(108, 17)}} {
		if got := Cell(c, x.k, x.i); got != x.want {
			t.Error("cell:", x, got)
		}
	}
	stands(t, c)
}

// P8.1: a Buffer of a queue, a Cell of a sampling channel, and numbers beside those that there are, told one by one.
func TestOfNone(t *testing.T) {
	c := mixed()
	for _, s := range []api.Span{
		Private(c, -1), Private(c, 3), Source(c, -1), Source(c, 4), Dest(c, -1), Dest(c, 4),
		Buffer(c, 1, 0, 0), Buffer(c, 1, 1, 1), Buffer(c, 3, 0, 0), Cell(c, 0, 0), Cell(c, 0, 1), Cell(c, 2, 0),
		Buffer(c, -1, 0, 0), Buffer(c, 4, 0, 0), Buffer(c, 0, -1, 0), Buffer(c, 0, 2, 0), Buffer(c, 0, 0, -1), Buffer(c, 0, 0, 2), Buffer(c, 0, 1, -1), Buffer(c, 2, -1, 1), Buffer(c, 2, 1, 2), Buffer(c, 2, 0, 3),
		Cell(c, -1, 0), Cell(c, 4, 0), Cell(c, 1, -1), Cell(c, 1, 2), Cell(c, 3, -1), Cell(c, 3, 1),
	} {
		if s != (api.Span{}) {
			t.Error(s)
		}
	}
	for _, n := range far {
		for _, s := range []api.Span{Private(c, n), Source(c, n), Dest(c, n), Buffer(c, n, 0, 1), Buffer(c, 0, n, 1), Buffer(c, 2, 1, n), Buffer(c, 2, n, n), Buffer(c, 0, n, -n), Buffer(c, n, n, n), Cell(c, n, 0), Cell(c, 1, n), Cell(c, 3, n), Cell(c, n, n)} {
			if s != (api.Span{}) {
				t.Error(n, s)
			}
		}
	}
}

// P8.1: one partition and no channel, with each number of private words that there may be.
func TestOnePartition(t *testing.T) {
	for n := range maxPrivate + 1 {
		c := config([]int{n})
		if got := slices.Collect(All(c)); Size(c) != n || Private(c, 0) != of(0, n) || !slices.Equal(got, []api.Span{of(0, n)}) {
			t.Error(n, Size(c), got)
		}
		stands(t, c)
	}
}

// P8.1: partitions from one to six, of 0 and 64 private words in each mixture, without channels and with one.
func TestPartitions(t *testing.T) {
	for n := 1; n <= maxParts; n++ {
		for some := range 1 << n {
			var private []int
			words := 0
			for p := range n {
				private = append(private, some>>p&1*maxPrivate)
				words += private[p]
			}
			c := config(private)
			if got := Size(c); got != words {
				t.Error(private, got)
			}
			laid(t, c, planned(c))
			if n > 1 {
				c = config(private, queue(n-1, 0, 1, 1))
				if got := Source(c, 0); Size(c) != words+4 || got != of(words, 3) || Dest(c, 0) != of(words+3, 1) {
					t.Error(private, got)
				}
				laid(t, c, planned(c))
			}
		}
	}
}

// P8.1: channels from none to eight, of the one kind, of the other one, and of both in turn.
func TestChannels(t *testing.T) {
	for n := range maxChans + 1 {
		for first := range 3 {
			var l []api.Chan
			for k := range n {
				ch := queue(k%2, 1-k%2, 1+k, 4)
				if first == 0 || first == 1 && k%2 == 0 {
					ch = sample(k%2, 1-k%2, 16-k)
				}
				l = append(l, ch)
			}
			stands(t, config([]int{3, 5}, l...))
		}
	}
}

// P8.1: a sampling channel of each number of words, told by numbers that the chapter's words give.
func TestSampling(t *testing.T) {
	for words := 1; words <= maxWords; words++ {
		c := config([]int{1, 1}, sample(1, 0, words))
		if got := Source(c, 0); got != of(2, 3+4*(2+words)) {
			t.Error(words, got)
		}
		if got := Dest(c, 0); got != of(13+4*words, 1) || Size(c) != 14+4*words {
			t.Error(words, got, Size(c))
		}
		for i, b := range []api.Span{Buffer(c, 0, 0, 0), Buffer(c, 0, 0, 1), Buffer(c, 0, 1, 0), Buffer(c, 0, 1, 1)} {
			if b != of(5+i*(2+words), 2+words) {
				t.Error(words, i, b)
			}
		}
		stands(t, c)
	}
}

// P8.1: a queue of each Depth and each number of words, told by numbers that the chapter's words give.
func TestQueuing(t *testing.T) {
	for _, depth := range []int{1, 2, 4, 8} {
		for words := 1; words <= maxWords; words++ {
			c := config([]int{1, 1}, queue(0, 1, words, depth))
			size := 1 + depth*(1+words)
			if got := Source(c, 0); got != of(2, size) {
				t.Error(depth, words, got)
			}
			if got := Dest(c, 0); got != of(2+size, 1) || Size(c) != 3+size {
				t.Error(depth, words, got, Size(c))
			}
			for i := range depth {
				if got := Cell(c, 0, i); got != of(3+i*(1+words), 1+words) {
					t.Error(depth, words, i, got)
				}
			}
			stands(t, c)
		}
	}
}

// P8.1: the greatest layouts.
func TestGreatest(t *testing.T) {
	c := full()
	if got := Size(c); got != 1488 {
		t.Error(got)
	}
	if got := Cell(c, 7, 7); got != of(1470, 17) {
		t.Error(got)
	}
	if got := Dest(c, 7); got != of(1487, 1) {
		t.Error(got)
	}
	stands(t, c)
	c = samples()
	if got := Size(c); got != 992 {
		t.Error(got)
	}
	if got := Buffer(c, 7, 1, 1); got != of(973, 18) {
		t.Error(got)
	}
	if got := Dest(c, 7); got != of(991, 1) {
		t.Error(got)
	}
	stands(t, c)
}

// P8.1: a layout hangs on nothing that isn't a count of words: not on cores, frames, periods, boots, or whose channels are.
func TestWhatDoesntCount(t *testing.T) {
	c := mixed()
	want := slices.Collect(All(c))
	for p := range c.Parts {
		c.Parts[p].Core = 0
	}
	c.Frames[0] = api.Frame{Length: 64, Windows: []api.Window{{Part: 2, Start: 5, Len: 9}, {Part: 1, Start: 20, Len: 4}, {Part: 0, Start: 60, Len: 4}}}
	c.Frames[1] = api.Frame{Length: 1}
	for k := range c.Chans {
		ch := &c.Chans[k]
		ch.From, ch.To = ch.To, ch.From
		if ch.Kind == sampling {
			ch.Period = 1 << 20
		} else {
			ch.Boot = 1<<32 - 1
		}
	}
	if got := slices.Collect(All(c)); !slices.Equal(got, want) {
		t.Error(got)
	}
	stands(t, c)
}

// P8.2: whose each address of the mixed layout is, told by the first and the last one of every span.
func TestMay(t *testing.T) {
	c := mixed()
	for _, x := range []struct{ from, last, part int }{
		{0, 1, 0}, {2, 4, 2},
		{5, 19, 0}, {20, 20, 1},
		{21, 29, 1}, {30, 30, 2},
		{31, 105, 2}, {106, 106, 0},
		{107, 124, 1}, {125, 125, 0},
	} {
		for _, at := range []int{x.from, x.last} {
			for p := -1; p <= 3; p++ {
				if got := May(c, p, at); got != (p == x.part) {
					t.Error(p, at, got)
				}
			}
		}
	}
	for p := -1; p <= 3; p++ {
		if May(c, p, -1) || May(c, p, 126) || May(c, p, 127) {
			t.Error("beside all:", p)
		}
	}
}

// P8.2: the first and the last address of every span, and one beside either, of a partition that has this span alone.
func TestMayOfOneSpan(t *testing.T) {
	for _, x := range []struct {
		c    api.Config
		part int
		has  api.Span
	}{
		{config([]int{5, 3, 4}), 0, of(0, 5)},
		{config([]int{5, 3, 4}), 1, of(5, 3)},
		{config([]int{5, 3, 4}), 2, of(8, 4)},
		{config([]int{5, 0, 4}), 1, of(5, 0)},
		{config([]int{5, 0, 4}, sample(1, 2, 2), queue(0, 2, 1, 1)), 1, of(9, 19)},
		{config([]int{5, 0, 4}, queue(1, 2, 2, 4), queue(0, 2, 1, 1)), 1, of(9, 13)},
		{config([]int{5, 0, 4}, sample(0, 1, 2), queue(0, 2, 1, 1)), 1, of(28, 1)},
		{config([]int{5, 0, 4}, queue(2, 1, 2, 4), queue(0, 2, 1, 1)), 1, of(22, 1)},
		{config([]int{5, 4, 0}, queue(0, 1, 2, 4), sample(2, 0, 1)), 2, of(23, 15)},
		{config([]int{5, 4, 0}, queue(0, 1, 2, 4), sample(0, 2, 1)), 2, of(38, 1)},
	} {
		end := x.has.From + x.has.Size
		for _, at := range []int{0, x.has.From - 1, x.has.From, x.has.From + 1, end - 1, end, end + 1} {
			if got := May(x.c, x.part, at); got != (x.has.From <= at && at < end) {
				t.Error(x.part, at, got, x.c)
			}
		}
		stands(t, x.c)
	}
}

// P8.2: numbers below 0 and very great ones, of partitions and of addresses.
func TestMayOfFarNumbers(t *testing.T) {
	for _, c := range []api.Config{mixed(), config([]int{64}), config([]int{0})} {
		for _, p := range append([]int{0, 1, 2, 3}, far...) {
			for _, at := range far {
				want := p >= 0 && p < len(c.Parts) && at >= 0 && at < Size(c) && planned(c).owner[at] == p
				if got := May(c, p, at); got != want {
					t.Error(p, at, got)
				}
			}
		}
		for _, p := range far {
			for at := range Size(c) {
				if May(c, p, at) {
					t.Error(p, at)
				}
			}
		}
	}
}

// P8.2: a partition that is at both ends of many channels has them all.
func TestMayOfBothEnds(t *testing.T) {
	c := config([]int{1, 1}, queue(0, 1, 1, 1), queue(1, 0, 1, 1), sample(0, 1, 1), sample(1, 0, 1))
	whose := []int{0, 1, 0, 0, 0, 1, 1, 1, 1, 0}
	whose = append(whose, slices.Repeat([]int{0}, 15)...)
	whose = append(whose, 1)
	whose = append(whose, slices.Repeat([]int{1}, 15)...)
	whose = append(whose, 0)
	if len(whose) != Size(c) {
		t.Fatal(Size(c))
	}
	for at, p := range whose {
		if !May(c, p, at) || May(c, 1-p, at) {
			t.Error(at, p)
		}
	}
}

// spoilers bring along a defect each, of a configuration like mixed.
func spoilers() []func(c *api.Config) {
	more := func(c *api.Config, start int) {
		c.Parts = append(c.Parts, api.Part{})
		c.Frames[0].Windows = append(c.Frames[0].Windows, api.Window{Part: len(c.Parts) - 1, Start: start, Len: 1})
	}
	return []func(c *api.Config){
		func(c *api.Config) {
			for start := 3; len(c.Parts) <= maxParts; start++ {
				more(c, start)
			}
		},
		func(c *api.Config) { c.Parts[1].Core = 2 },
		func(c *api.Config) { c.Parts[0].Private = 65 },
		func(c *api.Config) { c.Chans = append(c.Chans, slices.Repeat(c.Chans[:1], 5)...) },
		func(c *api.Config) { c.Chans[0].Kind = 3 },
		func(c *api.Config) { c.Chans[0].To = 3 },
		func(c *api.Config) { c.Chans[1].To = c.Chans[1].From },
		func(c *api.Config) { c.Chans[2].Words = 17 },
		func(c *api.Config) { c.Chans[1].Depth = 3 },
		func(c *api.Config) { c.Chans[2].Period = 1<<20 + 1 },
		func(c *api.Config) { c.Chans[0].Boot = 1 },
		func(c *api.Config) { c.Frames[1].Length = 65 },
		func(c *api.Config) {
			f := &c.Frames[1]
			f.Length = 64
			for start := 20; len(f.Windows) <= 16; start++ {
				f.Windows = append(f.Windows, api.Window{Part: 1, Start: start, Len: 1})
			}
		},
		func(c *api.Config) {
			c.Frames[0].Windows = append(c.Frames[0].Windows, api.Window{Part: 1, Start: 7, Len: 1})
		},
		func(c *api.Config) { c.Frames[0].Windows[1].Len = 7 },
		func(c *api.Config) { c.Frames[0].Windows[1].Start = 0 },
		func(c *api.Config) { c.Frames[1].Windows = nil },
	}
}

// spoiled is the mixed configuration with those defects whose bits some has, from defect 1 on.
func spoiled(some int) api.Config {
	c := mixed()
	for i, spoil := range spoilers() {
		if some>>i&1 == 1 {
			spoil(&c)
		}
	}
	return c
}

// P8.1, P8.2: of a configuration with one defect of each kind, or with several, there is nothing.
func TestNotAccepted(t *testing.T) {
	if len(spoilers()) != defects {
		t.Fatal(len(spoilers()))
	}
	for i := range defects {
		c := spoiled(1 << i)
		want := []int{i + 1}
		if i+1 == 2 {
			// The windows of a partition without a core are of no core either.
			want = []int{2, 14}
		}
		if got := slices.Collect(defect.All(c)); !slices.Equal(got, want) {
			t.Error("defects:", i+1, got)
		}
		empty(t, c)
		for j := range i {
			empty(t, spoiled(1<<i|1<<j))
		}
	}
	empty(t, spoiled(1<<defects-1))
}

// P8.1, P8.2: of a configuration without anything, or with nothing but a little, there is nothing.
func TestWithoutAnything(t *testing.T) {
	empty(t, api.Config{})
	empty(t, api.Config{Parts: []api.Part{}, Chans: []api.Chan{}, Frames: [2]api.Frame{{Windows: []api.Window{}}, {Windows: []api.Window{}}}})
	empty(t, api.Config{Parts: []api.Part{{Private: 9}}})
	empty(t, api.Config{Chans: mixed().Chans})
	empty(t, api.Config{Frames: mixed().Frames})
	empty(t, api.Config{Parts: mixed().Parts, Chans: mixed().Chans})
	empty(t, config(nil))
	empty(t, config(nil, queue(0, 1, 1, 1)))
	empty(t, config(make([]int, maxParts+1)))
	empty(t, config([]int{1, -1}))
	empty(t, config([]int{1, 1}, queue(0, 1, 1, 0)))
	empty(t, config([]int{1, 1}, queue(0, 1, 0, 1)))
	empty(t, config([]int{1, 1}, sample(0, 1, 0)))
}

// P8.1, P8.2: very great numbers in a configuration, so that sizes would wrap round, end, and there is nothing.
func TestGreatNumbers(t *testing.T) {
	for _, n := range far {
		if n == 9 || n == 16 || n == 64 {
			continue
		}
		for _, spoil := range []func(c *api.Config){
			func(c *api.Config) { c.Parts[1].Private = n },
			func(c *api.Config) { c.Chans[0].Words = n },
			func(c *api.Config) { c.Chans[1].Words = n },
			func(c *api.Config) { c.Chans[1].Depth = n },
			func(c *api.Config) { c.Chans[1].Words, c.Chans[1].Depth = n, n },
			func(c *api.Config) { c.Chans[2].Kind = n },
			func(c *api.Config) { c.Chans[2].From = n },
			func(c *api.Config) { c.Chans[3].To = n },
		} {
			c := mixed()
			spoil(&c)
			empty(t, c)
		}
	}
	c := mixed()
	c.Parts = append(c.Parts, make([]api.Part, 1<<16)...)
	empty(t, c)
}

// dice rolls numbers that are the same at each run.
func dice() func(n int) int {
	at := uint32(1)
	return func(n int) int {
		at = at*1664525 + 1013904223
		return int(at>>16) % n
	}
}

// rolled is any accepted configuration.
func rolled(roll func(n int) int) api.Config {
	private := make([]int, 1+roll(maxParts))
	for p := range private {
		private[p] = []int{0, 1, roll(maxPrivate + 1), maxPrivate}[roll(4)]
	}
	var l []api.Chan
	for range roll(maxChans + 1) {
		if len(private) == 1 {
			break
		}
		from := roll(len(private))
		to := (from + 1 + roll(len(private)-1)) % len(private)
		words := []int{1, 1 + roll(maxWords), maxWords}[roll(3)]
		if roll(2) == 0 {
			l = append(l, sample(from, to, words))
		} else {
			l = append(l, queue(from, to, words, 1<<roll(4)))
		}
	}
	return config(private, l...)
}

// P8.1, P8.2: many accepted configurations, held against what is written down word by word.
func TestMany(t *testing.T) {
	roll := dice()
	for i := range 1000 {
		c := rolled(roll)
		want := planned(c)
		laid(t, c, want)
		if i%20 == 0 {
			owned(t, c, want)
		}
	}
}

// P8.3: of many accepted configurations, no two spans meet, all of them lie within the size and fill it, and each address below it is just one partition's.
func TestApart(t *testing.T) {
	roll := dice()
	l := []api.Config{mixed(), full(), samples(), config([]int{0}), config([]int{64})}
	for range 60 {
		l = append(l, rolled(roll))
	}
	for _, c := range l {
		all, sum := slices.Collect(All(c)), 0
		if !span.Apart(all...) || len(all) != len(c.Parts)+2*len(c.Chans) {
			t.Error(all)
		}
		for _, s := range all {
			if !span.Right(s) || !span.In(s, of(0, Size(c))) || s.From+s.Size > Size(c) {
				t.Error(s, Size(c))
			}
			sum += s.Size
		}
		if sum != Size(c) {
			t.Error(sum, Size(c))
		}
		for at := -1; at <= Size(c); at++ {
			has := 0
			for p := range c.Parts {
				if May(c, p, at) {
					has++
				}
			}
			if (at < 0 || at >= Size(c)) != (has == 0) || has > 1 {
				t.Error(at, has, c)
			}
		}
	}
}

// P8.3: the spans that are told one by one are those that All tells, and each is its partition's.
func TestOneByOne(t *testing.T) {
	roll := dice()
	for range 100 {
		c := rolled(roll)
		var l []api.Span
		whose := func(p int, s api.Span) {
			l = append(l, s)
			for at := range span.All(s) {
				if !May(c, p, at) {
					t.Error(p, at, c)
				}
			}
		}
		for p := range c.Parts {
			whose(p, Private(c, p))
		}
		for k, ch := range c.Chans {
			whose(ch.From, Source(c, k))
			whose(ch.To, Dest(c, k))
		}
		if got := slices.Collect(All(c)); !slices.Equal(got, l) {
			t.Error(got, l)
		}
	}
}

// P8.3: the buffers and the cells of a channel lie at its source span's end, none meets another one, and each channel has those of its kind.
func TestBuffersAndCells(t *testing.T) {
	roll := dice()
	for range 300 {
		c := rolled(roll)
		for k, ch := range c.Chans {
			s := Source(c, k)
			var l []api.Span
			for pair := range 2 {
				for index := range 2 {
					if b := Buffer(c, k, pair, index); b.Size > 0 {
						l = append(l, b)
					}
				}
			}
			top, count := 3, 4
			if ch.Kind == queuing {
				top, count = 1, ch.Depth
			}
			for i := range maxDepth {
				if b := Cell(c, k, i); b.Size > 0 {
					l = append(l, b)
				}
			}
			if len(l) != count || !span.Apart(append(l, of(s.From, top))...) {
				t.Error(k, l, c)
			}
			sum := top
			for _, b := range l {
				sum += b.Size
				if !span.In(b, s) {
					t.Error(k, b, s)
				}
			}
			if sum != s.Size {
				t.Error(k, sum, s)
			}
		}
	}
}

// P8.1, R6: All is stopped at each place: it tells nothing more, and tells all from its beginning on each time.
func TestAllStops(t *testing.T) {
	for _, c := range []api.Config{mixed(), full(), config([]int{0}), config([]int{3, 0, 2}), config([]int{0, 0}, sample(0, 1, 1)), {}} {
		all := All(c)
		want := slices.Collect(all)
		for stop := 1; stop <= len(want)+1; stop++ {
			var got []api.Span
			all(func(s api.Span) bool {
				got = append(got, s)
				return len(got) < stop
			})
			if !slices.Equal(got, want[:min(stop, len(want))]) {
				t.Error(stop, got)
			}
			if again := slices.Collect(all); !slices.Equal(again, want) {
				t.Error("behind a stop:", stop, again)
			}
		}
	}
}

// P8.1, R6: one iterator is gone through within itself.
func TestAllWithinItself(t *testing.T) {
	all := All(mixed())
	want := planned(mixed()).all
	var outer []api.Span
	for s := range all {
		outer = append(outer, s)
		if got := slices.Collect(all); !slices.Equal(got, want) {
			t.Error(got)
		}
	}
	if !slices.Equal(outer, want) {
		t.Error(outer)
	}
}

// R1: an iterator that is told is never nil, though there is nothing to tell.
func TestAllIsNeverNil(t *testing.T) {
	if All(mixed()) == nil || All(api.Config{}) == nil || All(spoiled(1<<11)) == nil {
		t.Error("nil")
	}
}

// scrawl writes over all of a configuration's lists.
func scrawl(c api.Config) {
	for i := range c.Parts {
		c.Parts[i] = api.Part{Core: -7, Private: 40 + i}
	}
	for i := range c.Chans {
		c.Chans[i] = api.Chan{Kind: 3 - c.Chans[i].Kind, From: -7, To: -7, Words: 7, Depth: 8}
	}
	for _, f := range c.Frames {
		for i := range f.Windows {
			f.Windows[i] = api.Window{Part: -7, Start: -7, Len: -7}
		}
	}
}

// R4: what is written into the lists behind a call of All makes no difference to what it tells, ahead of the going-through or within it.
func TestHandedInIsntKept(t *testing.T) {
	want := planned(mixed()).all
	c := mixed()
	all := All(c)
	scrawl(c)
	for range 2 {
		if got := slices.Collect(all); !slices.Equal(got, want) {
			t.Error(got)
		}
	}
	empty(t, c)
	c = mixed()
	var got []api.Span
	for s := range All(c) {
		got = append(got, s)
		scrawl(c)
	}
	if !slices.Equal(got, want) {
		t.Error(got)
	}
}

// R4: nor does it make a configuration accepted, or not, behind the call.
func TestAcceptedAtTheCall(t *testing.T) {
	c := mixed()
	c.Parts[0].Private = 65
	all := All(c)
	c.Parts[0].Private = 2
	for s := range all {
		t.Error(s)
	}
	all = All(c)
	c.Parts[0].Private = 65
	if got := slices.Collect(all); !slices.Equal(got, planned(mixed()).all) {
		t.Error(got)
	}
	empty(t, c)
}

// R4: what is handed in isn't changed, spare room included.
func TestHandedInIsntChanged(t *testing.T) {
	made := func() api.Config {
		c := mixed()
		c.Parts, c.Chans = append(c.Parts, c.Parts...), append(c.Chans, c.Chans...)
		for i, f := range c.Frames {
			c.Frames[i].Windows = append(f.Windows, f.Windows...)
		}
		return c
	}
	whole := made()
	c := whole
	c.Parts, c.Chans = c.Parts[:len(c.Parts)/2], c.Chans[:len(c.Chans)/2]
	for i, f := range c.Frames {
		c.Frames[i].Windows = f.Windows[:len(f.Windows)/2]
	}
	stands(t, c)
	if !reflect.DeepEqual(whole, made()) {
		t.Error(whole)
	}
	c.Chans[1].Depth = 3
	empty(t, c)
	c.Chans[1].Depth = 2
	if !reflect.DeepEqual(whole, made()) {
		t.Error(whole)
	}
}

// R5: what is answered hangs on the configuration alone, not on those ahead of it; R3: nil and empty lists are one.
func TestOneBehindTheOther(t *testing.T) {
	one, other := All(mixed()), All(config([]int{5, 0}))
	for range 3 {
		laid(t, mixed(), planned(mixed()))
		empty(t, spoiled(1<<8))
		laid(t, full(), planned(full()))
		empty(t, api.Config{})
	}
	if got := slices.Collect(other); !slices.Equal(got, []api.Span{of(0, 5), of(5, 0)}) {
		t.Error(got)
	}
	if got := slices.Collect(one); !slices.Equal(got, planned(mixed()).all) {
		t.Error(got)
	}
	c := config([]int{5, 0})
	c.Chans = []api.Chan{}
	stands(t, c)
}
