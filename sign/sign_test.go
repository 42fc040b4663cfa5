package sign

import (
	"math"
	"reflect"
	"slices"
	"testing"

	"porthole/api"
	"porthole/defect"
	"porthole/layout"
)

// The calls have the chapter's signatures.
var (
	_ func(int) string                                      = Name
	_ func(string) (int, bool)                              = Op
	_ func(api.Config, int) (int, int, bool, bool)          = Port
	_ func(api.Config, api.Standing, api.Request) api.Errno = Refused
)

// The document's codes, kinds and requests, told anew, so that a wrong one in the package is found.
const (
	ok            = 0
	noAction      = 1
	invalidParam  = 3
	invalidConfig = 4
	invalidMode   = 5
	accessFault   = 6

	sampling = 1
	queuing  = 2

	create  = 1
	normal  = 2
	write   = 3
	read    = 4
	send    = 5
	receive = 6
	status  = 7
	peek    = 8
	poke    = 9

	rowCount = 15
)

// far are numbers below and above all that may be; cut to fewer bits, doubled or halved, some of them become one that may be.
var far = []int{
	-1, -2, -3, -8, -9, -10, -255, -256, -257, math.MinInt32, math.MinInt32 + 1, -1 << 32, -1<<32 + 1, -1<<33 + 2, -1 << 62, math.MinInt, math.MinInt + 1, math.MinInt + 2, math.MinInt + 9,
	64, 100, 255, 256, 257, 260, 1 << 16, 1<<16 + 3, math.MaxInt32, math.MaxInt32 + 1, 1<<32 - 1, 1 << 32, 1<<32 + 1, 1<<32 + 3, 1<<33 + 2, 1 << 62, 1<<62 + 1, math.MaxInt - 1, math.MaxInt,
}

func sample(from, to, words int) api.Chan {
	return api.Chan{Kind: sampling, From: from, To: to, Words: words, Period: 7}
}

func queue(from, to, words, depth int) api.Chan {
	return api.Chan{Kind: queuing, From: from, To: to, Words: words, Depth: depth, Boot: 9}
}

// config is of partitions with so many private words each, on both cores in turn, and of these channels.
func config(private []int, chans ...api.Chan) api.Config {
	c := api.Config{Chans: chans, Frames: [2]api.Frame{{Length: 8}, {Length: 8}}}
	for p, n := range private {
		c.Parts = append(c.Parts, api.Part{Core: p % 2, Private: n})
		f := &c.Frames[p%2]
		f.Windows = append(f.Windows, api.Window{Part: p, Start: p, Len: 1})
	}
	return c
}

// mixed has channels of both kinds in both directions. Private are the addresses 0 to 2 to partition 0, 3 and 4 to 1, none to 2, 5 to 12 to 3.
func mixed() api.Config {
	return config([]int{3, 2, 0, 8},
		sample(0, 1, 2),    // ports 0 of 0, 1 of 1
		queue(0, 1, 3, 2),  // ports 2 of 0, 3 of 1
		sample(1, 0, 1),    // ports 4 of 1, 5 of 0
		queue(1, 0, 4, 4),  // ports 6 of 1, 7 of 0
		queue(2, 0, 16, 8), // ports 8 of 2, 9 of 0
	)
}

// full has as many channels as there may be.
func full() api.Config {
	c := config([]int{64, 64, 64, 64, 64, 64})
	for k := range 8 {
		ch := sample(k%6, (k+1)%6, 16)
		if k%2 == 1 {
			ch = queue(k%6, (k+5)%6, 16, 8)
		}
		c.Chans = append(c.Chans, ch)
	}
	return c
}

// spoilers give the mixed configuration one defect each, from defect 1 on.
func spoilers() []func(c *api.Config) {
	return []func(c *api.Config){
		func(c *api.Config) {
			*c = config([]int{3, 2, 0, 8, 1, 1, 1}, c.Chans...)
		},
		func(c *api.Config) { c.Parts[2].Core = 2 },
		func(c *api.Config) { c.Parts[2].Private = 65 },
		func(c *api.Config) { c.Chans = append(c.Chans, c.Chans[:4]...) },
		func(c *api.Config) { c.Chans[4].Kind = 3 },
		func(c *api.Config) { c.Chans[4].From = 4 },
		func(c *api.Config) { c.Chans[4].To = 2 },
		func(c *api.Config) { c.Chans[4].Words = 17 },
		func(c *api.Config) { c.Chans[4].Depth = 3 },
		func(c *api.Config) { c.Chans[2].Period = -1 },
		func(c *api.Config) { c.Chans[2].Boot = 1 },
		func(c *api.Config) { c.Frames[0].Length = 65 },
		func(c *api.Config) {
			for i := range 16 {
				c.Frames[1].Windows = append(c.Frames[1].Windows, api.Window{Part: 1, Start: 8 + i, Len: 1})
			}
			c.Frames[1].Length = 64
		},
		func(c *api.Config) {
			c.Frames[0].Windows = append(c.Frames[0].Windows, api.Window{Part: 1, Start: 7, Len: 1})
		},
		func(c *api.Config) { c.Frames[1].Windows[1].Len = 9 },
		func(c *api.Config) { c.Frames[0].Windows[1].Start = 0; c.Frames[0].Windows[0].Len = 2 },
		func(c *api.Config) { c.Frames[0].Windows = c.Frames[0].Windows[:1] },
	}
}

// unaccepted are configurations with each of the defects, and such without anything.
func unaccepted(t *testing.T) []api.Config {
	l := []api.Config{
		{},
		{Parts: []api.Part{}, Chans: []api.Chan{}},
		{Parts: mixed().Parts, Chans: mixed().Chans},
		{Chans: mixed().Chans, Frames: mixed().Frames},
		{Parts: mixed().Parts, Frames: [2]api.Frame{{Length: 8}, {Length: 8}}},
	}
	for i, spoil := range spoilers() {
		c := mixed()
		spoil(&c)
		if !defect.Holds(c, i+1) {
			t.Fatal("no defect", i+1)
		}
		l = append(l, c)
	}
	return l
}

// list is so many words.
func list(n int) []uint32 {
	var l []uint32
	for i := range n {
		l = append(l, uint32(i)+7)
	}
	return l
}

// P10.1: each word and its number, both ways.
func TestWords(t *testing.T) {
	for op, word := range map[int]string{1: "create", 2: "normal", 3: "write", 4: "read", 5: "send", 6: "receive", 7: "status", 8: "peek", 9: "poke"} {
		if got := Name(op); got != word {
			t.Errorf("name of %d: %q instead of %q", op, got, word)
		}
		if got, is := Op(word); got != op || !is {
			t.Errorf("op of %q: %d, %v", word, got, is)
		}
	}
}

// P10.1: there is nothing of a number that is none.
func TestNoSuchOp(t *testing.T) {
	for _, op := range append([]int{0, 10, 11, 17, 18}, far...) {
		if got := Name(op); got != "" {
			t.Errorf("name of %d: %q", op, got)
		}
	}
}

// P10.1: nor of a word that is none.
func TestNoSuchWord(t *testing.T) {
	for _, word := range []string{
		"", " ", "\x00", "?", "1", "9", "CREATE", "Create", "NORMAL", "Write", "POKE", "pokE", " create", "create ", "create\n", "creat", "reate", "creates", "rea", "reads", "peekpoke",
		"peek poke", "re\xffd", "read\x00", "résumé", "tick", "begin", "recieve", "createnormal", "normal\x00", "\xff", "Execute",
	} {
		if op, is := Op(word); op != 0 || is {
			t.Errorf("op of %q: %d, %v", word, op, is)
		}
	}
}

// P10.1: of every op that has a name, and of no other one, the name is its word.
func TestThereAndBack(t *testing.T) {
	for op := -300; op <= 300; op++ {
		back, is := Op(Name(op))
		if there := op >= 1 && op <= 9; is != there || there && back != op {
			t.Error(op, back, is)
		}
	}
}

// port tells a fault unless Port answers this.
func port(t *testing.T, c api.Config, port, channel, part int, source, is bool) {
	t.Helper()
	if gotChannel, gotPart, gotSource, gotIs := Port(c, port); gotChannel != channel || gotPart != part || gotSource != source || gotIs != is {
		t.Errorf("port %d: %d, %d, %v, %v instead of %d, %d, %v, %v", port, gotChannel, gotPart, gotSource, gotIs, channel, part, source, is)
	}
}

// noPort tells a fault unless there isn't that port.
func noPort(t *testing.T, c api.Config, n int) {
	t.Helper()
	port(t, c, n, 0, 0, false, false)
}

// P10.1: both ports of each channel, of the first and the last ones too; the next ones, and all others, are none.
func TestPorts(t *testing.T) {
	c := mixed()
	port(t, c, 0, 0, 0, true, true)
	port(t, c, 1, 0, 1, false, true)
	port(t, c, 2, 1, 0, true, true)
	port(t, c, 3, 1, 1, false, true)
	port(t, c, 4, 2, 1, true, true)
	port(t, c, 5, 2, 0, false, true)
	port(t, c, 6, 3, 1, true, true)
	port(t, c, 7, 3, 0, false, true)
	port(t, c, 8, 4, 2, true, true)
	port(t, c, 9, 4, 0, false, true)
	noPort(t, c, 10)
	noPort(t, c, 11)
	noPort(t, c, 12)
	c = full()
	for k, ch := range c.Chans {
		port(t, c, 2*k, k, ch.From, true, true)
		port(t, c, 2*k+1, k, ch.To, false, true)
	}
	for n := 16; n < 40; n++ {
		noPort(t, c, n)
	}
	c.Chans = c.Chans[:1]
	port(t, c, 1, 0, 1, false, true)
	noPort(t, c, 2)
	noPort(t, c, 3)
}

// P10.1: ports that are none, however far they are off, and of no channels at all.
func TestNoSuchPort(t *testing.T) {
	for _, n := range far {
		noPort(t, mixed(), n)
		noPort(t, full(), n)
	}
	for n := -5; n <= 20; n++ {
		noPort(t, config([]int{3, 2}), n)
		noPort(t, config([]int{0}), n)
	}
}

// P10.1: a configuration that isn't accepted has no ports.
func TestPortsOfWhatIsntAccepted(t *testing.T) {
	for _, c := range unaccepted(t) {
		for n := -3; n <= 20; n++ {
			noPort(t, c, n)
		}
	}
}

// scene is a request, who makes it, and where.
type scene struct {
	c api.Config
	s api.Standing
	r api.Request
}

// refused tells a fault unless a request is refused by that code.
func refused(t *testing.T, x scene, want api.Errno) {
	t.Helper()
	if got := Refused(x.c, x.s, x.r); got != want {
		t.Errorf("%d instead of %d: %v of %v", got, want, x.r, x.s)
	}
}

// at is a request of a partition of the mixed configuration at normal work, that has made those of all ports that are its own.
func at(part int, r api.Request) scene {
	made := map[int][]int{0: {7, 0, 5, 2, 9}, 1: {1, 3, 4, 6}, 2: {8}}
	return scene{mixed(), api.Standing{Part: part, Normal: true, Made: made[part]}, r}
}

// young is such a request ahead of normal work.
func young(part int, r api.Request) scene {
	x := at(part, r)
	x.s.Normal = false
	return x
}

// fresh is such a request of a partition that has made nothing, and hasn't begun.
func fresh(part int, r api.Request) scene {
	x := young(part, r)
	x.s.Made = nil
	return x
}

// P10.2: each of the nine requests where it isn't refused.
func TestNotRefused(t *testing.T) {
	for part, ports := range [][]int{{0, 2, 5, 7, 9}, {1, 3, 4, 6}, {8}} {
		for _, n := range ports {
			refused(t, fresh(part, api.Request{Op: create, Port: n}), ok)
			refused(t, at(part, api.Request{Op: status, Port: n}), ok)
			x := fresh(part, api.Request{Op: create, Port: n})
			x.s.Made = slices.DeleteFunc(slices.Clone(at(part, x.r).s.Made), func(m int) bool { return m == n })
			refused(t, x, ok)
			x.s.Normal, x.s.Made, x.r.Op = true, []int{n}, status
			refused(t, x, ok)
		}
		refused(t, fresh(part, api.Request{Op: normal}), ok)
		refused(t, young(part, api.Request{Op: normal}), ok)
	}
	for _, x := range []scene{
		at(0, api.Request{Op: write, Port: 0, Data: list(2)}),
		at(1, api.Request{Op: write, Port: 4, Data: list(1)}),
		at(1, api.Request{Op: read, Port: 1}),
		at(0, api.Request{Op: read, Port: 5}),
		at(0, api.Request{Op: send, Port: 2, Data: list(3)}),
		at(1, api.Request{Op: send, Port: 6, Data: list(4)}),
		at(2, api.Request{Op: send, Port: 8, Data: list(16)}),
		at(1, api.Request{Op: receive, Port: 3}),
		at(0, api.Request{Op: receive, Port: 7}),
		at(0, api.Request{Op: receive, Port: 9}),
		at(0, api.Request{Op: peek, Addr: 1}),
		fresh(0, api.Request{Op: peek, Addr: 1}),
		at(0, api.Request{Op: poke, Addr: 1, Data: list(1)}),
		fresh(0, api.Request{Op: poke, Addr: 1, Data: list(1)}),
	} {
		refused(t, x, ok)
	}
}

// P10.2: what a request has beside what it is asked of makes no difference.
func TestBeside(t *testing.T) {
	great := uint64(math.MaxUint64)
	for _, x := range []scene{
		fresh(0, api.Request{Op: create, Port: 5, Addr: great, Data: list(99)}),
		fresh(0, api.Request{Op: normal, Port: -7, Addr: great, Data: list(99)}),
		fresh(0, api.Request{Op: normal, Port: 1}),
		at(0, api.Request{Op: write, Port: 0, Addr: great, Data: list(2)}),
		at(0, api.Request{Op: read, Port: 5, Addr: great, Data: list(99)}),
		at(0, api.Request{Op: send, Port: 2, Addr: great, Data: list(2)}),
		at(0, api.Request{Op: receive, Port: 7, Addr: great, Data: list(99)}),
		at(0, api.Request{Op: status, Port: 2, Addr: great, Data: list(99)}),
		at(0, api.Request{Op: peek, Port: -7, Addr: 2, Data: list(99)}),
		at(0, api.Request{Op: poke, Port: 99, Addr: 2, Data: list(1)}),
	} {
		x.s.Valid = []int{1, -5, 44}
		refused(t, x, ok)
		x.s.Made = append(slices.Clone(x.s.Made), 9, 9, -1, 44, 1, 3)
		if x.r.Op != create {
			refused(t, x, ok)
		}
	}
}

// The chapter's examples, and those of the whole that are refused.
func TestExamples(t *testing.T) {
	refused(t, fresh(0, api.Request{Op: write, Port: 0, Data: list(1)}), invalidParam)
	refused(t, at(0, api.Request{Op: normal}), invalidMode)

	two := config([]int{2, 1}, queue(0, 1, 1, 1))
	begun, made := api.Standing{Normal: true, Made: []int{0}}, api.Standing{Made: []int{0}}
	refused(t, scene{two, begun, api.Request{Op: peek, Addr: 1}}, ok)
	refused(t, scene{two, begun, api.Request{Op: poke, Addr: 1, Data: list(1)}}, ok)
	refused(t, scene{two, begun, api.Request{Op: peek, Addr: 2}}, accessFault)
	refused(t, scene{two, made, api.Request{Op: send, Data: list(1)}}, invalidMode)
	refused(t, scene{two, api.Standing{}, api.Request{Op: send, Data: list(1)}}, invalidParam)
	refused(t, scene{two, api.Standing{}, api.Request{Op: create, Port: 1}}, invalidConfig)
	refused(t, scene{two, made, api.Request{Op: create, Port: 0}}, noAction)
}

// P10.2: each row alone, written down case by case.
func TestEachRow(t *testing.T) {
	for _, x := range []struct {
		x    scene
		want api.Errno
	}{
		{at(4, api.Request{Op: peek}), invalidConfig},
		{at(0, api.Request{Op: 10}), invalidParam},
		{fresh(0, api.Request{Op: create, Port: 10}), invalidConfig},
		{fresh(0, api.Request{Op: create, Port: 11}), invalidConfig},
		{fresh(0, api.Request{Op: create, Port: -1}), invalidConfig},
		{fresh(0, api.Request{Op: create, Port: 1}), invalidConfig},
		{fresh(1, api.Request{Op: create, Port: 0}), invalidConfig},
		{fresh(2, api.Request{Op: create, Port: 9}), invalidConfig},
		{fresh(3, api.Request{Op: create, Port: 0}), invalidConfig},
		{young(0, api.Request{Op: create, Port: 7}), noAction},
		{young(0, api.Request{Op: create, Port: 9}), noAction},
		{young(2, api.Request{Op: create, Port: 8}), noAction},
		{scene{mixed(), api.Standing{Part: 0, Normal: true}, api.Request{Op: create, Port: 0}}, invalidMode},
		{at(0, api.Request{Op: normal}), invalidMode},
		{at(3, api.Request{Op: normal}), invalidMode},
		{scene{mixed(), api.Standing{Part: 0, Normal: true, Made: []int{0}}, api.Request{Op: status, Port: 2}}, invalidParam},
		{young(0, api.Request{Op: status, Port: 2}), invalidMode},
		{young(0, api.Request{Op: write, Port: 0, Data: list(1)}), invalidMode},
		{young(0, api.Request{Op: read, Port: 5}), invalidMode},
		{young(0, api.Request{Op: send, Port: 2, Data: list(1)}), invalidMode},
		{young(0, api.Request{Op: receive, Port: 7}), invalidMode},
		{at(0, api.Request{Op: write, Port: 0}), invalidParam},
		{at(0, api.Request{Op: write, Port: 0, Data: list(3)}), invalidConfig},
		{at(0, api.Request{Op: send, Port: 2}), invalidParam},
		{at(0, api.Request{Op: send, Port: 2, Data: list(4)}), invalidConfig},
		{at(0, api.Request{Op: poke, Addr: 1}), invalidParam},
		{at(0, api.Request{Op: poke, Addr: 1, Data: list(2)}), invalidParam},
		{at(0, api.Request{Op: poke, Addr: 3, Data: list(1)}), accessFault},
		{at(0, api.Request{Op: peek, Addr: 3}), accessFault},
	} {
		refused(t, x.x, x.want)
	}
}

// P10.2: of partition 0's ports of each kind and side, just one will do for each of the four.
func TestKindsAndSides(t *testing.T) {
	for op, good := range map[int][]int{write: {0}, send: {2}, read: {5}, receive: {7, 9}} {
		for _, n := range []int{0, 2, 5, 7, 9} {
			want := api.Errno(invalidMode)
			if slices.Contains(good, n) {
				want = ok
			}
			refused(t, at(0, api.Request{Op: op, Port: n, Data: list(1)}), want)
			if want == invalidMode {
				// Data comes behind the port.
				refused(t, at(0, api.Request{Op: op, Port: n}), want)
				refused(t, at(0, api.Request{Op: op, Port: n, Data: list(99)}), want)
			}
		}
	}
}

// P10.2: a port that a partition hasn't: one that it hasn't made, one of another partition though it is among Made, and one that is none.
func TestHasntThePort(t *testing.T) {
	for _, op := range []int{write, read, send, receive, status} {
		for _, n := range append([]int{1, 3, 4, 6, 8, 10, 11}, far...) {
			x := at(0, api.Request{Op: op, Port: n, Data: list(1)})
			refused(t, x, invalidParam)
			x.s.Made = append(x.s.Made, n)
			refused(t, x, invalidParam)
			x.s.Normal = false
			refused(t, x, invalidParam)
		}
		for _, n := range []int{0, 2, 5, 7, 9} {
			x := at(0, api.Request{Op: op, Port: n, Data: list(1)})
			x.s.Made = slices.DeleteFunc(x.s.Made, func(m int) bool { return m == n })
			refused(t, x, invalidParam)
			x.s.Made = []int{}
			refused(t, x, invalidParam)
			x.s.Made, x.s.Valid = nil, []int{n}
			refused(t, x, invalidParam)
		}
	}
}

// P10.2: Create of ports that are none, or another one's; of such a port the row comes ahead of Made's and of Normal's.
func TestCreateOfOthersPorts(t *testing.T) {
	for _, n := range append([]int{1, 3, 4, 6, 8, 10, 11}, far...) {
		x := fresh(0, api.Request{Op: create, Port: n})
		refused(t, x, invalidConfig)
		x.s.Made = []int{n}
		refused(t, x, invalidConfig)
		x.s.Normal = true
		refused(t, x, invalidConfig)
	}
}

// P10.2: Data of no word, of one, of just as many as the channel's words, and of one more.
func TestRoom(t *testing.T) {
	for _, room := range []int{1, 2, 15, 16} {
		c := config([]int{0, 0}, sample(0, 1, room), queue(0, 1, room, 1))
		s := api.Standing{Normal: true, Made: []int{0, 2}}
		for k, op := range []int{write, send} {
			for n := range room + 20 {
				want := api.Errno(ok)
				if n == 0 {
					want = invalidParam
				} else if n > room {
					want = invalidConfig
				}
				refused(t, scene{c, s, api.Request{Op: op, Port: 2 * k, Data: list(n)}}, want)
			}
			refused(t, scene{c, s, api.Request{Op: op, Port: 2 * k, Data: []uint32{}}}, invalidParam)
			refused(t, scene{c, s, api.Request{Op: op, Port: 2 * k, Data: list(1 << 16)}}, invalidConfig)
		}
	}
}

// P10.2: a Poke's Data has just one word, and that is asked ahead of where it is.
func TestPokesWord(t *testing.T) {
	for n := range 40 {
		for _, addr := range []uint64{0, 2, 3, 1 << 40, math.MaxUint64} {
			want := api.Errno(invalidParam)
			if n == 1 {
				want = ok
				if addr > 2 {
					want = accessFault
				}
			}
			refused(t, at(0, api.Request{Op: poke, Addr: addr, Data: list(n)}), want)
		}
	}
}

// P10.2: private spans from end to end, the addresses ahead of them and behind them, and a partition without private words.
func TestPrivateSpans(t *testing.T) {
	spans := [][2]int{{0, 3}, {3, 5}, {5, 5}, {5, 13}}
	for part, span := range spans {
		for addr := range layout.Size(mixed()) + 4 {
			want := api.Errno(accessFault)
			if addr >= span[0] && addr < span[1] {
				want = ok
			}
			refused(t, at(part, api.Request{Op: peek, Addr: uint64(addr)}), want)
			refused(t, fresh(part, api.Request{Op: poke, Addr: uint64(addr), Data: list(1)}), want)
		}
	}
	c := full()
	for addr := range 500 {
		want := api.Errno(accessFault)
		if addr >= 320 && addr <= 383 {
			want = ok
		}
		refused(t, scene{c, api.Standing{Part: 5}, api.Request{Op: peek, Addr: uint64(addr)}}, want)
	}
}

// P10.2: addresses up to the greatest one, many of which become a private one when some of their bits are cut off.
func TestFarAddresses(t *testing.T) {
	for bit := 4; bit < 64; bit++ {
		for low := range uint64(14) {
			for _, addr := range []uint64{1<<bit + low, math.MaxUint64<<bit + low, 1<<bit - 1} {
				if addr < 13 {
					continue
				}
				for part := range 4 {
					refused(t, at(part, api.Request{Op: peek, Addr: addr}), accessFault)
					refused(t, at(part, api.Request{Op: poke, Addr: addr, Data: list(1)}), accessFault)
				}
			}
		}
	}
	refused(t, at(0, api.Request{Op: peek, Addr: math.MaxUint64}), accessFault)
}

// P10.2: an Op that is none, whoever asks, whatever else there is.
func TestNoSuchOpIsRefused(t *testing.T) {
	for _, op := range append([]int{0, 10, 11}, far...) {
		for part := range 4 {
			refused(t, at(part, api.Request{Op: op}), invalidParam)
			refused(t, fresh(part, api.Request{Op: op, Port: 1, Addr: math.MaxUint64, Data: list(20)}), invalidParam)
		}
		refused(t, at(4, api.Request{Op: op}), invalidConfig)
		refused(t, scene{r: api.Request{Op: op}}, invalidConfig)
	}
}

// P10.2: a Part that is no partition's number, and a configuration that isn't accepted, whatever is asked for.
func TestNobodyAsks(t *testing.T) {
	all := []api.Request{{Op: create}, {Op: normal}, {Op: write, Data: list(1)}, {Op: read, Port: 5}, {Op: send, Port: 2, Data: list(1)}, {Op: receive, Port: 7}, {Op: status}, {Op: peek}, {Op: poke, Data: list(1)}, {}, {Op: 10}, {Op: -1}}
	for _, r := range all {
		for _, part := range append([]int{4, 5, 6, 7}, far...) {
			for _, x := range []scene{at(part, r), fresh(part, r)} {
				x.s.Made = []int{0, 2, 5, 7}
				refused(t, x, invalidConfig)
			}
		}
		for _, c := range unaccepted(t) {
			for part := -1; part < 5; part++ {
				for _, x := range []scene{at(part, r), young(part, r), fresh(part, r)} {
					x.c = c
					refused(t, x, invalidConfig)
				}
			}
		}
	}
}

// mine tells whether there is a port that is a partition's, by the chapter's words.
func mine(x scene) bool {
	n := x.r.Port
	if n < 0 || n > 2*len(x.c.Chans)-1 {
		return false
	}
	if ch := x.c.Chans[n/2]; n%2 == 0 {
		return ch.From == x.s.Part
	} else {
		return ch.To == x.s.Part
	}
}

// owns tells whether an address is in a partition's private span, by the words ahead of it.
func owns(x scene) bool {
	var ahead uint64
	for p, part := range x.c.Parts {
		next := ahead + uint64(part.Private)
		if p == x.s.Part {
			return x.r.Addr >= ahead && x.r.Addr < next
		}
		ahead = next
	}
	return false
}

// holding are the numbers of the rows that hold, from 1 on, each asked for itself; behind the first row, or where a row has no sense, none.
func holding(x scene) []int {
	if !defect.Accepts(x.c) || x.s.Part < 0 || x.s.Part >= len(x.c.Parts) {
		return []int{1}
	}
	op, made, has := x.r.Op, slices.Contains(x.s.Made, x.r.Port), mine(x)
	var ch api.Chan
	source := x.r.Port&1 == 0
	if n := x.r.Port; n >= 0 && n < 2*len(x.c.Chans) {
		ch = x.c.Chans[n/2]
	}
	ported := op >= write && op <= status
	var l []int
	for i, is := range []bool{
		false,
		op < create || op > poke,
		op == create && !has,
		op == create && made,
		(op == create || op == normal) && x.s.Normal,
		ported && !(has && made),
		ported && !x.s.Normal,
		op == write && (ch.Kind != sampling || !source),
		op == read && (ch.Kind != sampling || source),
		op == send && (ch.Kind != queuing || !source),
		op == receive && (ch.Kind != queuing || source),
		(op == write || op == send) && len(x.r.Data) == 0,
		(op == write || op == send) && len(x.r.Data) > ch.Words,
		op == poke && len(x.r.Data) != 1,
		(op == peek || op == poke) && !owns(x),
	} {
		if is {
			l = append(l, i+1)
		}
	}
	return l
}

// codeOf are the rows' codes.
var codeOf = [rowCount + 1]api.Errno{
	ok, invalidConfig, invalidParam, invalidConfig, noAction, invalidMode, invalidParam, invalidMode, invalidMode, invalidMode, invalidMode, invalidMode,
	invalidParam, invalidConfig, invalidParam, accessFault,
}

// spoils are ways in which a row comes to hold of a request that isn't refused; they are done in the order in which they stand, so that none undoes one ahead of it.
func spoils() []struct {
	row int
	of  []int
	do  func(x *scene)
} {
	type spoil = struct {
		row int
		of  []int
		do  func(x *scene)
	}
	empty := func(x *scene) { x.r.Data = nil }
	long := func(x *scene) { x.r.Data = list(x.c.Chans[x.r.Port/2].Words + 1) }
	to := func(n int) func(x *scene) { return func(x *scene) { x.r.Port = n } }
	return []spoil{
		{8, []int{write}, to(2)}, {8, []int{write}, to(5)}, {8, []int{write}, to(7)},
		{9, []int{read}, to(0)}, {9, []int{read}, to(2)}, {9, []int{read}, to(7)},
		{10, []int{send}, to(0)}, {10, []int{send}, to(5)}, {10, []int{send}, to(7)},
		{11, []int{receive}, to(0)}, {11, []int{receive}, to(2)}, {11, []int{receive}, to(5)},
		{12, []int{write, send}, empty}, {13, []int{write, send}, long},
		{14, []int{poke}, empty}, {14, []int{poke}, func(x *scene) { x.r.Data = list(2) }},
		{15, []int{peek, poke}, func(x *scene) { x.r.Addr = 3 }}, {15, []int{peek, poke}, func(x *scene) { x.r.Addr = math.MaxUint64 }},
		{3, []int{create}, to(1)}, {3, []int{create}, to(10)}, {3, []int{create}, to(-1)},
		{4, []int{create}, func(x *scene) { x.s.Made = append(x.s.Made, x.r.Port) }},
		{5, []int{create, normal}, func(x *scene) { x.s.Normal = true }},
		{6, []int{write, read, send, receive, status}, func(x *scene) { x.s.Made = nil }},
		{6, []int{write, read, send, receive, status}, func(x *scene) {
			x.s.Made = slices.DeleteFunc(slices.Clone(x.s.Made), func(n int) bool { return n == x.r.Port })
		}},
		{7, []int{write, read, send, receive, status}, func(x *scene) { x.s.Normal = false }},
		{2, nil, func(x *scene) { x.r.Op = 0 }}, {2, nil, func(x *scene) { x.r.Op = 10 }},
		{1, nil, func(x *scene) { x.s.Part = 4 }}, {1, nil, func(x *scene) { x.s.Part = -1 }},
		{1, nil, func(x *scene) { x.c.Chans[4].Depth = 3 }},
	}
}

// goods are one request each that isn't refused, of partition 0.
func goods() []scene {
	unmade := young(0, api.Request{Op: create, Port: 7})
	unmade.s.Made = []int{0, 2}
	return []scene{
		unmade,
		young(0, api.Request{Op: normal}),
		at(0, api.Request{Op: write, Port: 0, Data: list(1)}),
		at(0, api.Request{Op: read, Port: 5}),
		at(0, api.Request{Op: send, Port: 2, Data: list(1)}),
		at(0, api.Request{Op: receive, Port: 7}),
		at(0, api.Request{Op: status, Port: 2}),
		at(0, api.Request{Op: peek, Addr: 2}),
		at(0, api.Request{Op: poke, Addr: 2, Data: list(1)}),
	}
}

// spoiled is the request that isn't refused of that number, with some of the spoils, and the numbers of their rows, rising; false, if these can't be done together.
func spoiled(good int, some []int) (scene, []int, bool) {
	x, l := goods()[good], spoils()
	var rows []int
	for _, n := range some {
		if l[n].of != nil && !slices.Contains(l[n].of, goods()[good].r.Op) || slices.Contains(rows, l[n].row) {
			return x, nil, false
		}
		rows = append(rows, l[n].row)
		l[n].do(&x)
	}
	slices.Sort(rows)
	// Data can't be empty and too long at once.
	return x, rows, !slices.Contains(rows, 12) || !slices.Contains(rows, 13)
}

// P10.2: each row alone, and every two that can hold together, and three: the first one is answered.
func TestFirstRow(t *testing.T) {
	alone, pairs := map[int]bool{}, map[[2]int]bool{}
	try := func(good int, some ...int) {
		x, rows, fits := spoiled(good, slices.Compact(some))
		if !fits {
			return
		}
		refused(t, x, codeOf[rows[0]])
		// Where nobody asks, or for nothing that there is, no other row has a sense; with the first one nevertheless all come together.
		together := slices.Equal(holding(x), rows)
		if rows[0] > 2 && !together {
			t.Errorf("rows %v instead of %v: %v of %v", holding(x), rows, x.r, x.s)
		}
		if len(rows) == 1 {
			alone[rows[0]] = true
		} else if len(rows) == 2 && (together || rows[0] == 1) {
			pairs[[2]int(rows)] = true
		}
	}
	count := len(spoils())
	for good, x := range goods() {
		refused(t, x, ok)
		for i := range count {
			for j := i; j < count; j++ {
				for k := j; k < count; k++ {
					try(good, i, j, k)
				}
			}
		}
	}
	if len(alone) != rowCount {
		t.Error("alone:", alone)
	}
	// The pairs of 1 with all others, and those of Create, of the port, of its kind with Data, and of Poke.
	if len(pairs) != 14+3+1+2*(4+2)+2*2+1 {
		t.Error("pairs:", len(pairs), pairs)
	}
}

// dice rolls numbers that are the same at each run.
func dice() func(n int) int {
	at := uint32(1)
	return func(n int) int {
		at = at*1664525 + 1013904223
		return int(at>>16) % n
	}
}

// rolledConfig is any configuration, most often an accepted one.
func rolledConfig(roll func(n int) int) api.Config {
	private := make([]int, 1+roll(6))
	for p := range private {
		private[p] = []int{0, 1, roll(65), 64}[roll(4)]
	}
	c := config(private)
	for range roll(9) {
		if len(private) == 1 {
			break
		}
		from := roll(len(private))
		to := (from + 1 + roll(len(private)-1)) % len(private)
		words := []int{1, 2, 1 + roll(16), 16}[roll(4)]
		if roll(2) == 0 {
			c.Chans = append(c.Chans, sample(from, to, words))
		} else {
			c.Chans = append(c.Chans, queue(from, to, words, 1<<roll(4)))
		}
	}
	if roll(30) == 0 {
		c.Frames[roll(2)].Length = 0
	}
	return c
}

// rolled is any request at any standing of any configuration, most often not far from one that isn't refused.
func rolled(roll func(n int) int) scene {
	x := scene{c: rolledConfig(roll)}
	ports := 2 * len(x.c.Chans)
	x.s.Part, x.s.Normal = roll(len(x.c.Parts)), roll(3) > 0
	for n := range ports {
		if roll(4) > 0 {
			x.s.Made = append(x.s.Made, n)
		}
	}
	x.r = api.Request{Op: 1 + roll(9), Port: roll(ports + 1), Data: list([]int{0, 1, 1, roll(18)}[roll(4)])}
	size := layout.Private(x.c, x.s.Part)
	x.r.Addr = uint64(max(0, size.From-1+roll(size.Size+2)))
	switch roll(40) {
	case 0:
		x.s.Part = far[roll(len(far))]
	case 1:
		x.r.Op = far[roll(len(far))]
	case 2:
		x.r.Port = far[roll(len(far))]
	case 3:
		x.r.Addr = uint64(far[roll(len(far))])
	case 4:
		x.s.Made = append(x.s.Made, far...)
	}
	return x
}

// P10.2: many requests, held against the rows that hold by the chapter's words.
func TestMany(t *testing.T) {
	roll, seen := dice(), map[int]int{}
	for range 60000 {
		x := rolled(roll)
		first := 0
		if l := holding(x); len(l) > 0 {
			first = l[0]
		}
		seen[first]++
		refused(t, x, codeOf[first])
	}
	for row := range rowCount + 1 {
		if seen[row] < 20 {
			t.Error("row", row, "was first", seen[row], "times")
		}
	}
}

// P10.3: what isn't refused can be done: its port is there, of the right kind and side, and in what stands in the memory there is room.
func TestCanBeDone(t *testing.T) {
	roll, seen := dice(), map[int]int{}
	for range 60000 {
		x := rolled(roll)
		if Refused(x.c, x.s, x.r) != ok {
			continue
		}
		seen[x.r.Op]++
		if op, is := Op(Name(x.r.Op)); op != x.r.Op || !is {
			t.Error(x.r, op, is)
		}
		k, part, source, is := Port(x.c, x.r.Port)
		if x.r.Op != normal && x.r.Op < peek && (!is || part != x.s.Part || slices.Contains(x.s.Made, x.r.Port) != (x.r.Op != create)) {
			t.Error(x.r, x.s, k, part, source, is)
		}
		n := len(x.r.Data)
		switch x.r.Op {
		case write, send:
			room := layout.Buffer(x.c, k, 1, 1).Size - 2
			if x.r.Op == send {
				room = layout.Cell(x.c, k, 0).Size - 1
			}
			if n < 1 || n > room || !layout.May(x.c, x.s.Part, layout.Source(x.c, k).From) || !source {
				t.Error(x.r, x.s, room, source)
			}
		case read, receive:
			room := layout.Buffer(x.c, k, 0, 0).Size
			if x.r.Op == receive {
				room = layout.Cell(x.c, k, 0).Size
			}
			if room < 1 || !layout.May(x.c, x.s.Part, layout.Dest(x.c, k).From) || source {
				t.Error(x.r, x.s, room, source)
			}
		case peek, poke:
			if !layout.May(x.c, x.s.Part, int(x.r.Addr)) || x.r.Op == poke && n != 1 {
				t.Error(x.r, x.s)
			}
		}
	}
	for op := create; op <= poke; op++ {
		if seen[op] < 20 {
			t.Error("op", op, "wasn't refused", seen[op], "times")
		}
	}
}

// P10.3: a port is whose its span may be changed by, of each accepted configuration; and there are two of each channel.
func TestPortsAndSpans(t *testing.T) {
	roll := dice()
	for range 300 {
		c := rolledConfig(roll)
		count := 0
		for n := -4; n < 30; n++ {
			k, part, source, is := Port(c, n)
			if !is {
				continue
			}
			count++
			s := layout.Dest(c, k)
			if source {
				s = layout.Source(c, k)
			}
			if n != 2*k && source || n != 2*k+1 && !source || !layout.May(c, part, s.From) {
				t.Error(n, k, part, source)
			}
		}
		want := 2 * len(c.Chans)
		if !defect.Accepts(c) {
			want = 0
		}
		if count != want {
			t.Error(count, want)
		}
	}
}

// roomy is a list with marked spare room behind it.
func roomy[T any](l []T, mark T) []T { return append(slices.Clone(l), mark, mark)[:len(l)] }

// loose is a scene all of whose lists have marked spare room.
func loose(x scene) scene {
	x.c.Parts = roomy(x.c.Parts, api.Part{Core: 7, Private: 7})
	x.c.Chans = roomy(x.c.Chans, api.Chan{Kind: 7})
	for core := range x.c.Frames {
		x.c.Frames[core].Windows = roomy(x.c.Frames[core].Windows, api.Window{Part: 7})
	}
	x.s.Made, x.s.Valid = roomy(x.s.Made, 77), roomy(x.s.Valid, 78)
	x.r.Data = roomy(x.r.Data, 79)
	return x
}

// widened is a scene with the spare room of its lists.
func widened(x scene) scene {
	x.c.Parts, x.c.Chans = x.c.Parts[:len(x.c.Parts)+2], x.c.Chans[:len(x.c.Chans)+2]
	for core, f := range x.c.Frames {
		x.c.Frames[core].Windows = f.Windows[:len(f.Windows)+2]
	}
	x.s.Made, x.s.Valid, x.r.Data = x.s.Made[:len(x.s.Made)+2], x.s.Valid[:len(x.s.Valid)+2], x.r.Data[:len(x.r.Data)+2]
	return x
}

// R4: what is handed in isn't changed, spare room included, whether it is refused or not.
func TestHandedInIsntChanged(t *testing.T) {
	roll := dice()
	l := goods()
	for range 2000 {
		l = append(l, rolled(roll))
	}
	for _, x := range l {
		x.s.Made = append(slices.Clone(x.s.Made), 9, 3, 9)
		x.s.Valid = []int{9, 1, 5}
		used, kept := loose(x), loose(x)
		Refused(used.c, used.s, used.r)
		Port(used.c, used.r.Port)
		if !reflect.DeepEqual(widened(used), widened(kept)) {
			t.Fatal(widened(used), widened(kept))
		}
	}
}

// R5: what is answered hangs on what is handed in alone: each is asked anew, in another order, among others, and the lists are written over behind each call.
func TestOneBehindTheOther(t *testing.T) {
	roll := dice()
	var l []scene
	var want []api.Errno
	for range 500 {
		x := rolled(roll)
		l, want = append(l, x), append(want, Refused(x.c, x.s, x.r))
	}
	for i := len(l) - 1; i >= 0; i-- {
		x := loose(l[i])
		k, part, source, is := Port(x.c, x.r.Port)
		refused(t, x, want[i])
		clear(x.c.Parts)
		clear(x.c.Chans)
		clear(x.s.Made)
		clear(x.r.Data)
		refused(t, l[i], want[i])
		port(t, l[i].c, l[i].r.Port, k, part, source, is)
	}
	for range 2 {
		if Name(3) != "write" || Name(33) != "" {
			t.Error("name")
		}
		if op, is := Op("write"); op != 3 || !is {
			t.Error("op")
		}
	}
}

// R3: nil and empty lists are one.
func TestEmptyLists(t *testing.T) {
	for _, x := range goods() {
		empty, none := x, x
		empty.s.Made, empty.s.Valid, empty.r.Data = []int{}, []int{}, []uint32{}
		none.s.Made, none.s.Valid, none.r.Data = nil, nil, nil
		if a, b := Refused(empty.c, empty.s, empty.r), Refused(none.c, none.s, none.r); a != b {
			t.Error(x.r, a, b)
		}
	}
}

// R1: nothing at all panics, whatever numbers stand everywhere.
func TestAnything(t *testing.T) {
	roll := dice()
	number := func() int {
		if roll(2) == 0 {
			return roll(12) - 1
		}
		return far[roll(len(far))]
	}
	for range 20000 {
		c := rolledConfig(roll)
		for range roll(3) {
			switch p, n := roll(len(c.Parts)), number(); roll(5) {
			case 0:
				c.Parts[p] = api.Part{Core: n, Private: number()}
			case 1:
				c.Chans = append(c.Chans, api.Chan{Kind: n, From: number(), To: number(), Words: number(), Depth: number(), Period: number()})
			case 2:
				c.Frames[n&1] = api.Frame{Length: number(), Windows: []api.Window{{Part: number(), Start: number(), Len: number()}}}
			case 3:
				c.Chans = append(c.Chans, c.Chans...)
			case 4:
				c.Parts = append(c.Parts, c.Parts...)
			}
		}
		x := scene{c, api.Standing{Part: number(), Normal: roll(2) == 0, Made: []int{number(), number()}, Valid: []int{number()}}, api.Request{Op: number(), Port: number(), Addr: uint64(number()), Data: list(roll(20))}}
		first := 0
		if l := holding(x); len(l) > 0 {
			first = l[0]
		}
		refused(t, x, codeOf[first])
		if _, _, _, is := Port(c, x.r.Port); is && !defect.Accepts(c) {
			t.Error("port", x.r.Port)
		}
	}
}
