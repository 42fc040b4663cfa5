package table

import (
	"math"
	"reflect"
	"slices"
	"testing"

	"porthole/api"
)

// The calls have the chapter's signatures.
var (
	_ func(api.Config) []uint32              = Print
	_ func([]uint32) (api.Config, api.Errno) = Parse
	_ func(a, b api.Config) bool             = Same
)

// The document's bound, told anew.
const maxRows = 64

// some is a configuration whose numbers are all unlike, those of its words that count rows left out.
func some() api.Config {
	return api.Config{
		Parts: []api.Part{{Core: 101, Private: 102}, {Core: 103, Private: 104}, {Core: 105, Private: 106}},
		Chans: []api.Chan{
			{Kind: 201, From: 202, To: 203, Words: 204, Depth: 205, Period: 206, Boot: 207},
			{Kind: 211, From: 212, To: 213, Words: 214, Depth: 215, Period: 216, Boot: 217},
		},
		Frames: [2]api.Frame{
			{Length: 301, Windows: []api.Window{{Part: 311, Start: 312, Len: 313}}},
			{Length: 401, Windows: []api.Window{{Part: 411, Start: 412, Len: 413}, {Part: 421, Start: 422, Len: 423}, {Part: 431, Start: 432, Len: 433}, {Part: 441, Start: 442, Len: 443}}},
		},
	}
}

// someWords are its words.
func someWords() []uint32 {
	return []uint32{
		3, 2, 301, 1, 401, 4,
		101, 102, 103, 104, 105, 106,
		201, 202, 203, 204, 205, 206, 207,
		211, 212, 213, 214, 215, 216, 217,
		311, 312, 313,
		411, 412, 413, 421, 422, 423, 431, 432, 433, 441, 442, 443,
	}
}

// sized is a configuration of so many rows, whose numbers are handed out by next.
func sized(parts, chans, windows0, windows1 int, next func() uint32) api.Config {
	n := func() int { return int(next()) }
	var c api.Config
	c.Frames[0].Length, c.Frames[1].Length = n(), n()
	for range parts {
		c.Parts = append(c.Parts, api.Part{Core: n(), Private: n()})
	}
	for range chans {
		c.Chans = append(c.Chans, api.Chan{Kind: n(), From: n(), To: n(), Words: n(), Depth: n(), Period: n(), Boot: next()})
	}
	for i, windows := range []int{windows0, windows1} {
		for range windows {
			c.Frames[i].Windows = append(c.Frames[i].Windows, api.Window{Part: n(), Start: n(), Len: n()})
		}
	}
	return c
}

// counting hands out 1, 2 and so on.
func counting() func() uint32 {
	var at uint32
	return func() uint32 { at++; return at }
}

// wordsOf are the words of a configuration, worked out anew.
func wordsOf(c api.Config) []uint32 {
	core0, core1 := c.Frames[0], c.Frames[1]
	l := []uint32{
		uint32(len(c.Parts)), uint32(len(c.Chans)),
		uint32(core0.Length), uint32(len(core0.Windows)),
		uint32(core1.Length), uint32(len(core1.Windows)),
	}
	for _, p := range c.Parts {
		l = append(l, uint32(p.Core), uint32(p.Private))
	}
	for _, k := range c.Chans {
		l = append(l, uint32(k.Kind), uint32(k.From), uint32(k.To), uint32(k.Words), uint32(k.Depth), uint32(k.Period), k.Boot)
	}
	for _, w := range core0.Windows {
		l = append(l, uint32(w.Part), uint32(w.Start), uint32(w.Len))
	}
	for _, w := range core1.Windows {
		l = append(l, uint32(w.Part), uint32(w.Start), uint32(w.Len))
	}
	return l
}

// places are the numbers of a configuration that are written in it as int.
func places(c *api.Config) []*int {
	l := []*int{&c.Frames[0].Length, &c.Frames[1].Length}
	for i := range c.Parts {
		p := &c.Parts[i]
		l = append(l, &p.Core, &p.Private)
	}
	for i := range c.Chans {
		k := &c.Chans[i]
		l = append(l, &k.Kind, &k.From, &k.To, &k.Words, &k.Depth, &k.Period)
	}
	for f := range c.Frames {
		for i := range c.Frames[f].Windows {
			w := &c.Frames[f].Windows[i]
			l = append(l, &w.Part, &w.Start, &w.Len)
		}
	}
	return l
}

// bare is a configuration without lists that are empty, but not nil, so that two of them are held against each other whole.
func bare(c api.Config) api.Config {
	c.Parts = append([]api.Part(nil), c.Parts...)
	c.Chans = append([]api.Chan(nil), c.Chans...)
	for i := range c.Frames {
		c.Frames[i].Windows = append([]api.Window(nil), c.Frames[i].Windows...)
	}
	return c
}

func equal(a, b api.Config) bool { return reflect.DeepEqual(bare(a), bare(b)) }

func prints(t *testing.T, c api.Config, want ...uint32) {
	t.Helper()
	if got := Print(c); !slices.Equal(got, want) {
		t.Errorf("print of %v: %v instead of %v", c, got, want)
	}
}

// parses tells a fault unless words are parsed as this configuration.
func parses(t *testing.T, words []uint32, want api.Config) {
	t.Helper()
	if got, e := Parse(words); e != api.OK || !equal(got, want) {
		t.Errorf("parse of %v: %v, %v instead of %v", words, got, e, want)
	}
}

// refuses tells a fault unless words are answered by this error, beside no configuration.
func refuses(t *testing.T, words []uint32, want api.Errno) {
	t.Helper()
	if got, e := Parse(words); e != want || !equal(got, api.Config{}) {
		t.Errorf("parse of %v: %v, %v instead of %v", words, got, e, want)
	}
}

func same(t *testing.T, a, b api.Config, want bool) {
	t.Helper()
	if Same(a, b) != want || Same(b, a) != want {
		t.Errorf("same: %v and %v: %v, %v instead of %v", a, b, Same(a, b), Same(b, a), want)
	}
}

// both tells a fault unless a configuration and its words are told by each other.
func both(t *testing.T, c api.Config, words ...uint32) {
	t.Helper()
	prints(t, c, words...)
	parses(t, words, c)
	same(t, c, c, true)
}

// scrawl writes over a list, spare room included.
func scrawl[T any](l []T, by T) {
	for i := range l[:cap(l)] {
		l[:cap(l)][i] = by
	}
}

// scrawlAll writes over all lists of a configuration.
func scrawlAll(c api.Config) {
	scrawl(c.Parts, api.Part{Core: -7, Private: -7})
	scrawl(c.Chans, api.Chan{Kind: -7, From: -7, To: -7, Words: -7, Depth: -7, Period: -7, Boot: 7})
	scrawl(c.Frames[0].Windows, api.Window{Part: -7, Start: -7, Len: -7})
	scrawl(c.Frames[1].Windows, api.Window{Part: -8, Start: -8, Len: -8})
}

// dice rolls numbers that are the same at each run.
func dice() func() uint32 {
	at := uint32(1)
	return func() uint32 {
		at = at*1664525 + 1013904223
		return at>>16 | at<<16
	}
}

// The numbers that no word is.
var noWord = []int{-1, -2, -256, math.MinInt32, math.MinInt32 - 1, -1 << 32, -1<<32 + 1, math.MinInt, math.MinInt + 1, 1 << 32, 1<<32 + 1, 1<<33 - 1, 1 << 33, 1 << 48, math.MaxInt - 1, math.MaxInt}

// Counts that are above MaxRows.
var tooMany = []uint32{maxRows + 1, maxRows + 2, 127, 128, 255, 256, 257, 1 << 16, 1<<16 + 1, 1<<31 - 1, 1 << 31, 1<<31 + 1, 1 << 30, math.MaxUint32 - 1, math.MaxUint32}

// The places of the four counts among the words.
var counts = []int{0, 1, 3, 5}

// The chapter's example.
func TestExample(t *testing.T) {
	both(t, api.Config{}, 0, 0, 0, 0, 0, 0)
	refuses(t, make([]uint32, 5), api.ErrShort)
}

// P6.1, Print and Parse: the words are the chapter's, in its order.
func TestWords(t *testing.T) { both(t, some(), someWords()...) }

// P6.1: a row of each kind alone, windows of one core alone among them, and lengths alone.
func TestOneRowAlone(t *testing.T) {
	both(t, api.Config{Parts: []api.Part{{Core: 8, Private: 9}}}, 1, 0, 0, 0, 0, 0, 8, 9)
	both(t, api.Config{Chans: []api.Chan{{Kind: 4, From: 5, To: 6, Words: 7, Depth: 8, Period: 9, Boot: 10}}}, 0, 1, 0, 0, 0, 0, 4, 5, 6, 7, 8, 9, 10)
	window := []api.Window{{Part: 7, Start: 8, Len: 9}}
	both(t, api.Config{Frames: [2]api.Frame{{Windows: window}, {}}}, 0, 0, 0, 1, 0, 0, 7, 8, 9)
	both(t, api.Config{Frames: [2]api.Frame{{}, {Windows: window}}}, 0, 0, 0, 0, 0, 1, 7, 8, 9)
	both(t, api.Config{Frames: [2]api.Frame{{Length: 5}, {}}}, 0, 0, 5, 0, 0, 0)
	both(t, api.Config{Frames: [2]api.Frame{{}, {Length: 6}}}, 0, 0, 0, 0, 6, 0)
}

// P6.1: windows of one core alone, several of them; and of both.
func TestWindows(t *testing.T) {
	a, b, c := api.Window{Part: 1, Start: 2, Len: 3}, api.Window{Part: 4, Start: 5, Len: 6}, api.Window{Part: 7, Start: 8, Len: 9}
	both(t, api.Config{Frames: [2]api.Frame{{Length: 20, Windows: []api.Window{a, b, c}}, {Length: 30}}}, 0, 0, 20, 3, 30, 0, 1, 2, 3, 4, 5, 6, 7, 8, 9)
	both(t, api.Config{Frames: [2]api.Frame{{Length: 20}, {Length: 30, Windows: []api.Window{a, b, c}}}}, 0, 0, 20, 0, 30, 3, 1, 2, 3, 4, 5, 6, 7, 8, 9)
	both(t, api.Config{Frames: [2]api.Frame{{Windows: []api.Window{c}}, {Windows: []api.Window{b, a}}}}, 0, 0, 0, 1, 0, 2, 7, 8, 9, 4, 5, 6, 1, 2, 3)
	both(t, api.Config{Frames: [2]api.Frame{{Windows: []api.Window{c, b}}, {Windows: []api.Window{a}}}}, 0, 0, 0, 2, 0, 1, 7, 8, 9, 4, 5, 6, 1, 2, 3)
}

// P6.1, P6.2: each mixture of few rows of each kind, and of as many as there may be.
func TestCounts(t *testing.T) {
	few := []int{0, 1, 2, maxRows - 1, maxRows}
	for _, parts := range few {
		for _, chans := range few {
			for _, windows0 := range few {
				for _, windows1 := range few {
					c := sized(parts, chans, windows0, windows1, counting())
					words := wordsOf(c)
					if len(words) != 6+2*parts+7*chans+3*(windows0+windows1) {
						t.Fatal(len(words))
					}
					both(t, c, words...)
				}
			}
		}
	}
}

// P6.1, Print: a row more than MaxRows of one kind, of two, of all; and far more: not told by words.
func TestPrintTooManyRows(t *testing.T) {
	for kinds := 1; kinds < 16; kinds++ {
		for _, n := range []int{maxRows + 1, maxRows + 2, 128, 256, 320, 1 << 16, 1<<16 + 1} {
			for _, few := range []int{0, 1, maxRows} {
				rows := []int{few, few, few, few}
				for k := range rows {
					if kinds>>k&1 == 1 {
						rows[k] = n
					}
				}
				if got := Print(sized(rows[0], rows[1], rows[2], rows[3], counting())); len(got) != 0 {
					t.Error(rows, len(got))
				}
			}
		}
	}
}

// P6.1, P6.2: each number at 0, at the greatest one, and about the places where narrower kinds of numbers end.
func TestEachNumber(t *testing.T) {
	c := some()
	for _, n := range []int{0, 1, 127, 128, 255, 256, 1<<15 - 1, 1 << 15, 1<<16 - 1, 1 << 16, math.MaxInt32, math.MaxInt32 + 1, math.MaxUint32 - 1, math.MaxUint32} {
		for i := range places(&c) {
			d := some()
			*places(&d)[i] = n
			both(t, d, wordsOf(d)...)
			same(t, c, d, false)
		}
		for i := range c.Chans {
			d := some()
			d.Chans[i].Boot = uint32(n)
			both(t, d, wordsOf(d)...)
			same(t, c, d, false)
		}
	}
}

// P6.1, P6.2: all numbers at 0, and all at the greatest one.
func TestAllNumbersAlike(t *testing.T) {
	for _, n := range []uint32{0, 1 << 31, math.MaxUint32} {
		for _, rows := range []int{1, 3, maxRows} {
			c := sized(rows, rows, rows, rows, func() uint32 { return n })
			both(t, c, wordsOf(c)...)
		}
	}
}

// P6.1, Print: a number below 0 or from 2^32 on, in each place: not told by words.
func TestPrintNoWord(t *testing.T) {
	c := some()
	for i := range places(&c) {
		for _, n := range noWord {
			d := some()
			*places(&d)[i] = n
			prints(t, d)
			same(t, c, d, false)
			same(t, d, d, true)
		}
	}
}

// P6.1, Print: the same in the first and in the last row of full lists, and with too many rows.
func TestPrintNoWordInFullLists(t *testing.T) {
	for _, rows := range []int{maxRows, maxRows + 1} {
		c := sized(rows, rows, rows, rows, counting())
		for _, at := range []func() *int{
			func() *int { return &c.Parts[0].Core },
			func() *int { return &c.Parts[rows-1].Private },
			func() *int { return &c.Chans[0].Kind },
			func() *int { return &c.Chans[rows-1].Period },
			func() *int { return &c.Frames[0].Windows[0].Part },
			func() *int { return &c.Frames[0].Windows[rows-1].Len },
			func() *int { return &c.Frames[1].Windows[0].Part },
			func() *int { return &c.Frames[1].Windows[rows-1].Len },
		} {
			was := *at()
			for _, n := range []int{-1, 1 << 32} {
				*at() = n
				prints(t, c)
			}
			*at() = was
		}
	}
}

// P6.1, Parse, R1: no words at all, and fewer than six, whatever they are: ErrShort.
func TestParseFewerThanSix(t *testing.T) {
	refuses(t, nil, api.ErrShort)
	refuses(t, []uint32{}, api.ErrShort)
	for n := range 6 {
		refuses(t, make([]uint32, n), api.ErrShort)
		refuses(t, make([]uint32, n, 100), api.ErrShort)
		refuses(t, slices.Repeat([]uint32{1}, n), api.ErrShort)
		refuses(t, slices.Repeat([]uint32{maxRows}, n), api.ErrShort)
		refuses(t, someWords()[:n], api.ErrShort)
	}
}

// P6.1, Parse: fewer than six words, a count among them above MaxRows: ErrShort comes first.
func TestParseShortAheadOfArg(t *testing.T) {
	for n := range 6 {
		for _, many := range tooMany {
			refuses(t, slices.Repeat([]uint32{many}, n), api.ErrShort)
			for at := range n {
				words := make([]uint32, n)
				words[at] = many
				refuses(t, words, api.ErrShort)
			}
		}
	}
}

// P6.1, Parse: each of the four counts above MaxRows: ErrArg, though words lack as well, or are left.
func TestParseTooManyRows(t *testing.T) {
	for _, many := range tooMany {
		for _, at := range counts {
			for _, size := range []int{6, 7, 100, 2000} {
				words := make([]uint32, size)
				words[at] = many
				refuses(t, words, api.ErrArg)
			}
		}
		for _, size := range []int{6, 7, 100} {
			refuses(t, slices.Repeat([]uint32{many}, size), api.ErrArg)
		}
	}
}

// P6.1, Parse: a count above MaxRows, with just as many words as it says: ErrArg.
func TestParseTooManyRowsAllThere(t *testing.T) {
	for _, few := range []int{0, 1, maxRows} {
		for k := range counts {
			for _, n := range []int{maxRows + 1, maxRows + 2, 128, 256} {
				rows := []int{few, few, few, few}
				rows[k] = n
				words := wordsOf(sized(rows[0], rows[1], rows[2], rows[3], counting()))
				refuses(t, words, api.ErrArg)
				refuses(t, words[:len(words)-1], api.ErrArg)
				refuses(t, append(words, 0), api.ErrArg)
			}
		}
	}
}

// P6.1, Parse: the lengths are no counts: they may be any words.
func TestParseLengthsAreNoCounts(t *testing.T) {
	for _, n := range append([]uint32{0, 1, maxRows}, tooMany...) {
		both(t, api.Config{Frames: [2]api.Frame{{Length: int(n)}, {}}}, 0, 0, n, 0, 0, 0)
		both(t, api.Config{Frames: [2]api.Frame{{}, {Length: int(n)}}}, 0, 0, 0, 0, n, 0)
		both(t, api.Config{Frames: [2]api.Frame{{Length: int(n)}, {Length: int(n)}}}, 0, 0, n, 0, n, 0)
	}
}

// P6.1, Parse: just as many words as the counts say, each number of words fewer, and some more.
func TestParseFewerAndMore(t *testing.T) {
	few := []int{0, 1, 2}
	for _, parts := range few {
		for _, chans := range few {
			for _, windows0 := range few {
				for _, windows1 := range few {
					c := sized(parts, chans, windows0, windows1, counting())
					words := wordsOf(c)
					parses(t, words, c)
					for n := range len(words) {
						refuses(t, words[:n], api.ErrShort)
					}
					for _, more := range []int{1, 2, 3, 6, 7, 14, 100} {
						refuses(t, append(slices.Clone(words), make([]uint32, more)...), api.ErrRest)
					}
				}
			}
		}
	}
}

// P6.1, Parse: the same of full lists, of each kind alone and of all.
func TestParseFullListsFewerAndMore(t *testing.T) {
	for kinds := range 16 {
		rows := make([]int, 4)
		for k := range rows {
			rows[k] = kinds >> k & 1 * maxRows
		}
		c := sized(rows[0], rows[1], rows[2], rows[3], counting())
		words := wordsOf(c)
		parses(t, words, c)
		refuses(t, words[:len(words)-1], api.ErrShort)
		refuses(t, append(words, 9), api.ErrRest)
	}
}

// P6.1, Parse: rows without an end of their own are told by the counts alone: a count more takes words of the next kind.
func TestParseByCounts(t *testing.T) {
	refuses(t, []uint32{1, 0, 0, 0, 0, 0}, api.ErrShort)
	refuses(t, []uint32{0, 0, 0, 0, 0, 0, 8, 9}, api.ErrRest)
	parses(t, []uint32{3, 0, 0, 0, 0, 0, 1, 2, 3, 4, 5, 6}, api.Config{Parts: []api.Part{{Core: 1, Private: 2}, {Core: 3, Private: 4}, {Core: 5, Private: 6}}})
	parses(t, []uint32{0, 0, 0, 1, 0, 1, 1, 2, 3, 4, 5, 6}, api.Config{Frames: [2]api.Frame{{Windows: []api.Window{{Part: 1, Start: 2, Len: 3}}}, {Windows: []api.Window{{Part: 4, Start: 5, Len: 6}}}}})
}

// P6.1, Parse: it asks for no configuration that could be accepted; only words count.
func TestParseAnyNumbers(t *testing.T) {
	const top = math.MaxUint32
	parses(t, []uint32{1, 1, top, 1, top, 0, top, top, top, top, top, top, top, top, top, top, top, top}, api.Config{
		Parts:  []api.Part{{Core: top, Private: top}},
		Chans:  []api.Chan{{Kind: top, From: top, To: top, Words: top, Depth: top, Period: top, Boot: top}},
		Frames: [2]api.Frame{{Length: top, Windows: []api.Window{{Part: top, Start: top, Len: top}}}, {Length: top}},
	})
}

// P6.1, Same: what is the same, however it came about.
func TestSame(t *testing.T) {
	same(t, api.Config{}, api.Config{}, true)
	same(t, some(), some(), true)
	c, _ := Parse(someWords())
	same(t, some(), c, true)
	for _, rows := range []int{1, maxRows, maxRows + 1, 1000} {
		same(t, sized(rows, rows, rows, rows, counting()), sized(rows, rows, rows, rows, counting()), true)
	}
}

// P6.1, Same, R3: nil and empty lists are one, of each kind.
func TestSameNilAndEmpty(t *testing.T) {
	empty := api.Config{Parts: []api.Part{}, Chans: []api.Chan{}, Frames: [2]api.Frame{{Windows: []api.Window{}}, {Windows: []api.Window{}}}}
	same(t, api.Config{}, empty, true)
	same(t, empty, empty, true)
	full := some()
	short := api.Config{Parts: full.Parts[:0], Chans: full.Chans[:0], Frames: [2]api.Frame{{Windows: full.Frames[0].Windows[:0]}, {Windows: full.Frames[1].Windows[:0]}}}
	same(t, api.Config{}, short, true)
	both(t, empty, 0, 0, 0, 0, 0, 0)
	both(t, short, 0, 0, 0, 0, 0, 0)
}

// P6.1, Same: one number is another one, in each place, by little, by much, and by what its lower half doesn't show.
func TestSameButOneNumber(t *testing.T) {
	c := some()
	for i := range places(&c) {
		for _, by := range []int{1, -1, 256, 1 << 16, 1 << 31, 1 << 32, -1 << 32, 1 << 33, math.MinInt} {
			d := some()
			*places(&d)[i] += by
			same(t, c, d, false)
		}
		d := some()
		*places(&d)[i] *= -1
		same(t, c, d, false)
	}
	for i := range c.Chans {
		for _, by := range []uint32{1, math.MaxUint32, 256, 1 << 16, 1 << 31} {
			d := some()
			d.Chans[i].Boot += by
			same(t, c, d, false)
		}
	}
}

// P6.1, Same: a row more, ahead of the others or behind them, or one fewer, of each kind, a row of noughts among them.
func TestSameButOneRow(t *testing.T) {
	for _, other := range []func(c *api.Config){
		func(c *api.Config) { c.Parts = append(c.Parts, api.Part{}) },
		func(c *api.Config) { c.Parts = append([]api.Part{{}}, c.Parts...) },
		func(c *api.Config) { c.Parts = c.Parts[1:] },
		func(c *api.Config) { c.Parts = c.Parts[:2] },
		func(c *api.Config) { c.Parts = nil },
		func(c *api.Config) { c.Parts[0], c.Parts[1] = c.Parts[1], c.Parts[0] },
		func(c *api.Config) { c.Parts[2] = c.Parts[1] },
		func(c *api.Config) { c.Chans = append(c.Chans, api.Chan{}) },
		func(c *api.Config) { c.Chans = append([]api.Chan{{}}, c.Chans...) },
		func(c *api.Config) { c.Chans = c.Chans[1:] },
		func(c *api.Config) { c.Chans = c.Chans[:1] },
		func(c *api.Config) { c.Chans = nil },
		func(c *api.Config) { c.Chans[0], c.Chans[1] = c.Chans[1], c.Chans[0] },
		func(c *api.Config) { c.Chans[1] = c.Chans[0] },
		func(c *api.Config) { c.Frames[0].Windows = append(c.Frames[0].Windows, api.Window{}) },
		func(c *api.Config) { c.Frames[0].Windows = append([]api.Window{{}}, c.Frames[0].Windows...) },
		func(c *api.Config) { c.Frames[0].Windows = nil },
		func(c *api.Config) { c.Frames[1].Windows = append(c.Frames[1].Windows, api.Window{}) },
		func(c *api.Config) { c.Frames[1].Windows = c.Frames[1].Windows[1:] },
		func(c *api.Config) { c.Frames[1].Windows = c.Frames[1].Windows[:3] },
		func(c *api.Config) { c.Frames[1].Windows = nil },
		func(c *api.Config) {
			w := c.Frames[1].Windows
			w[2], w[3] = w[3], w[2]
		},
	} {
		c := some()
		other(&c)
		same(t, some(), c, false)
		both(t, c, wordsOf(c)...)
	}
	for _, one := range []api.Config{
		{Parts: make([]api.Part, 1)},
		{Chans: make([]api.Chan, 1)},
		{Frames: [2]api.Frame{{Windows: make([]api.Window, 1)}, {}}},
		{Frames: [2]api.Frame{{}, {Windows: make([]api.Window, 1)}}},
	} {
		same(t, api.Config{}, one, false)
	}
}

// P6.1, Same: the two frames are not one: what the one has instead of the other makes a difference.
func TestSameButFramesChanged(t *testing.T) {
	c := some()
	for _, other := range []func(c *api.Config){
		func(c *api.Config) { c.Frames[0], c.Frames[1] = c.Frames[1], c.Frames[0] },
		func(c *api.Config) { c.Frames[0].Length, c.Frames[1].Length = c.Frames[1].Length, c.Frames[0].Length },
		func(c *api.Config) {
			c.Frames[0].Windows, c.Frames[1].Windows = c.Frames[1].Windows, c.Frames[0].Windows
		},
		func(c *api.Config) {
			c.Frames[0].Windows = append(c.Frames[0].Windows, c.Frames[1].Windows[0])
			c.Frames[1].Windows = c.Frames[1].Windows[1:]
		},
		func(c *api.Config) { c.Frames[0].Length++; c.Frames[1].Length-- },
	} {
		d := some()
		other(&d)
		same(t, c, d, false)
		both(t, d, wordsOf(d)...)
	}
}

// P6.1, Same: of configurations that are not told by words too.
func TestSameOfWhatIsNotTold(t *testing.T) {
	for _, n := range noWord {
		c, d := some(), some()
		c.Frames[1].Length, d.Frames[1].Length = n, n
		c.Chans[1].Period, d.Chans[1].Period = n, n
		same(t, c, d, true)
		d.Chans[1].Period++
		same(t, c, d, false)
	}
	full := func() api.Config { return sized(200, 200, 200, 200, counting()) }
	for _, other := range []func(c *api.Config){
		func(c *api.Config) { c.Parts[199].Private++ },
		func(c *api.Config) { c.Chans[199].Boot++ },
		func(c *api.Config) { c.Frames[0].Windows[199].Len++ },
		func(c *api.Config) { c.Frames[1].Windows[199].Len++ },
		func(c *api.Config) { c.Parts = c.Parts[:199] },
		func(c *api.Config) { c.Chans = c.Chans[:199] },
		func(c *api.Config) { c.Frames[0].Windows = c.Frames[0].Windows[:199] },
		func(c *api.Config) { c.Frames[1].Windows = c.Frames[1].Windows[:199] },
	} {
		c := full()
		other(&c)
		same(t, full(), c, false)
	}
}

// P6.2: configurations of all sizes: what is printed is parsed as it was; others are parsed as others.
func TestPrintedIsParsed(t *testing.T) {
	roll := dice()
	few := func() int { return int(roll() % (maxRows + 1)) }
	var last api.Config
	for range 300 {
		c := sized(few(), few(), few(), few(), roll)
		both(t, c, wordsOf(c)...)
		back, e := Parse(Print(c))
		if e != api.OK {
			t.Fatal(e)
		}
		same(t, c, back, true)
		same(t, last, back, false)
		last = c
	}
}

// P6.2: words of all kinds: what is parsed has just these words; and what isn't, is refused by the chapter's row of errors, worked out anew.
func TestParsedHasTheseWords(t *testing.T) {
	roll := dice()
	seen := map[api.Errno]int{}
	for range 20000 {
		words := make([]uint32, roll()%40)
		for i := range words {
			words[i] = roll()
		}
		for i := range min(6, len(words)) {
			words[i] %= 3
		}
		if len(words) > 0 && roll()%8 == 0 {
			words[roll()%uint32(min(len(words), 12))] = roll() % 80
		}
		want := due(words)
		seen[want]++
		if c, e := Parse(words); e != want || e == api.OK && !slices.Equal(Print(c), words) || e != api.OK && !equal(c, api.Config{}) {
			t.Fatal(words, c, e, want)
		}
	}
	for _, e := range []api.Errno{api.OK, api.ErrShort, api.ErrArg, api.ErrRest} {
		if seen[e] < 50 {
			t.Error("too rarely:", e, seen)
		}
	}
}

// due is the error by which words are answered.
func due(words []uint32) api.Errno {
	if len(words) < 6 {
		return api.ErrShort
	}
	for _, at := range counts {
		if words[at] > maxRows {
			return api.ErrArg
		}
	}
	size := int(6 + 2*words[0] + 7*words[1] + 3*words[3] + 3*words[5])
	if len(words) < size {
		return api.ErrShort
	}
	if len(words) > size {
		return api.ErrRest
	}
	return api.OK
}

// R4: a configuration that is handed in stays as it is, spare room included.
func TestConfigStays(t *testing.T) {
	whole := sized(9, 9, 9, 9, counting())
	cut := func(c api.Config) api.Config {
		c.Parts, c.Chans = c.Parts[:4], c.Chans[:4]
		c.Frames[0].Windows, c.Frames[1].Windows = c.Frames[0].Windows[:4], c.Frames[1].Windows[:4]
		return c
	}
	c := cut(whole)
	prints(t, c, wordsOf(c)...)
	same(t, c, cut(sized(9, 9, 9, 9, counting())), true)
	scrawl(Print(c), 5)
	if !equal(whole, sized(9, 9, 9, 9, counting())) {
		t.Error(whole)
	}
}

// R4: words that are handed in stay as they are, spare room included, though the configuration that came of them is written over.
func TestWordsStay(t *testing.T) {
	whole := append(someWords(), 5, 6, 7)
	size := len(someWords())
	parses(t, whole[:size], some())
	refuses(t, whole[:size-1], api.ErrShort)
	refuses(t, whole, api.ErrRest)
	c, _ := Parse(whole[:size])
	scrawlAll(c)
	if !slices.Equal(whole, append(someWords(), 5, 6, 7)) {
		t.Error(whole)
	}
}

// R4: what was handed in is written over behind the call: what was answered stays.
func TestAnswersStay(t *testing.T) {
	c := some()
	words := Print(c)
	scrawlAll(c)
	if !slices.Equal(words, someWords()) {
		t.Error(words)
	}
	words = someWords()
	c, _ = Parse(words)
	scrawl(words, 5)
	if !equal(c, some()) {
		t.Error(c)
	}
}

// R4: answers share nothing with earlier ones, and no two lists of one answer share any, spare room included.
func TestAnswersShareNothing(t *testing.T) {
	one, other := Print(some()), Print(some())
	scrawl(one, 5)
	if !slices.Equal(other, someWords()) {
		t.Error(other)
	}
	a, _ := Parse(someWords())
	b, _ := Parse(someWords())
	scrawlAll(a)
	if !equal(b, some()) {
		t.Error(b)
	}
	parses(t, someWords(), some())
	prints(t, some(), someWords()...)

	for _, over := range []func(c api.Config){
		func(c api.Config) { scrawl(c.Frames[0].Windows, api.Window{Part: 7}) },
		func(c api.Config) { scrawl(c.Frames[1].Windows, api.Window{Part: 7}) },
	} {
		c, _ := Parse(someWords())
		was := bare(c)
		over(c)
		changed := 0
		for i := range c.Frames {
			if !slices.Equal(c.Frames[i].Windows, was.Frames[i].Windows) {
				changed++
			}
		}
		if changed != 1 {
			t.Error(c)
		}
	}
}

// R4: lists of the same rows are each a list of its own.
func TestSharedListsAreParsedApart(t *testing.T) {
	windows := []api.Window{{Part: 1, Start: 2, Len: 3}}
	c := api.Config{Frames: [2]api.Frame{{Windows: windows}, {Windows: windows}}}
	both(t, c, 0, 0, 0, 1, 0, 1, 1, 2, 3, 1, 2, 3)
	back, _ := Parse(Print(c))
	back.Frames[0].Windows[0].Part = 9
	if back.Frames[1].Windows[0].Part != 1 || windows[0].Part != 1 {
		t.Error(back, windows)
	}
}

// R2, R5: what was refused leaves nothing behind, and the same is answered over and over.
func TestNothingIsLeftBehind(t *testing.T) {
	for range 3 {
		refuses(t, someWords()[:20], api.ErrShort)
		parses(t, someWords(), some())
		refuses(t, append(someWords(), 1), api.ErrRest)
		parses(t, someWords(), some())
		refuses(t, []uint32{65, 0, 0, 0, 0, 0}, api.ErrArg)
		parses(t, make([]uint32, 6), api.Config{})
		prints(t, sized(maxRows+1, 0, 0, 0, counting()))
		prints(t, some(), someWords()...)
	}
}
