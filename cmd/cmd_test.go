package cmd_test

import (
	"fmt"
	"math"
	"slices"
	"strings"
	"testing"

	"quayhand/api"
	"quayhand/cmd"
)

// kindOf: the word of a kind, and what it has: z for Z, a for At, n for N, d for Data.
type kindOf struct {
	kind      int
	word, has string
}

var kinds = []kindOf{
	{api.COpen, "open", "z"},
	{api.CClose, "close", "z"},
	{api.CFinish, "finish", "z"},
	{api.CReset, "reset", "z"},
	{api.CAppend, "append", "zd"},
	{api.CWrite, "write", "zad"},
	{api.CRead, "read", "zan"},
	{api.CRegister, "register", "n"},
	{api.CReserve, "reserve", "n"},
	{api.CRelease, "release", ""},
	{api.CPreempt, "preempt", "n"},
	{api.CClear, "clear", ""},
}

// build: a command of this kind with these numbers in what is named; what isn't named is zero.
func build(kind int, names string, z, at, n int, data []int) api.Cmd {
	c := api.Cmd{Kind: kind}
	for _, name := range names {
		switch name {
		case 'z':
			c.Z = z
		case 'a':
			c.At = at
		case 'n':
			c.N = n
		case 'd':
			c.Data = slices.Clone(data)
		}
	}
	return c
}

// told: the text of a command with this word that has what is named.
func told(word, names string, z, at, n int, data []int) string {
	pieces := []string{word}
	for _, name := range names {
		switch name {
		case 'z':
			pieces = append(pieces, fmt.Sprint(z))
		case 'a':
			pieces = append(pieces, fmt.Sprint(at))
		case 'n':
			pieces = append(pieces, fmt.Sprint(n))
		case 'd':
			for _, v := range data {
				pieces = append(pieces, fmt.Sprint(v))
			}
		}
	}
	return strings.Join(pieces, " ")
}

// alike: are these the same, field by field?
func alike(a, b api.Cmd) bool {
	return a.Kind == b.Kind && a.Z == b.Z && a.N == b.N && a.At == b.At && slices.Equal(a.Data, b.Data)
}

// each goes through right commands of all kinds, with their texts.
func each(do func(c api.Cmd, text string)) {
	some := []int{0, 1, 10, 100, api.MaxValue}
	for _, k := range kinds {
		for size := 1; size <= api.ZoneSize; size++ {
			for i, z := range some {
				for j, at := range some {
					for m, n := range some {
						data := make([]int, size)
						for x := range data {
							data[x] = some[(i+2*j+3*m+x)%len(some)]
						}
						do(build(k.kind, k.has, z, at, n, data), told(k.word, k.has, z, at, n, data))
					}
				}
			}
		}
	}
}

// many: n times v.
func many(n, v int) []int { return slices.Repeat([]int{v}, n) }

// with: n times 1, but v at place at.
func with(n, at, v int) []int {
	l := many(n, 1)
	l[at] = v
	return l
}

// P4.1

// Each kind, and some that are none, with each choice of Z, At, N, Data.
func TestCheckOfWhatEachKindHas(t *testing.T) {
	for kind := -2; kind <= api.CClear+2; kind++ {
		for set := range 16 {
			names := ""
			for bit, name := range []string{"z", "a", "n", "d"} {
				if set>>bit&1 == 1 {
					names += name
				}
			}
			want := api.ErrForm
			if mayHave(kind, names) {
				want = api.OK
			}
			c := build(kind, names, 1, 2, 3, []int{4})
			if e := cmd.Check(c); e != want {
				t.Errorf("%+v: %d, want %d", c, e, want)
			}
		}
	}
}

// mayHave: is there this kind, and may these, and no others, be other than zero?
func mayHave(kind int, names string) bool {
	i := slices.IndexFunc(kinds, func(k kindOf) bool { return k.kind == kind })
	if i < 0 {
		return false
	}
	has := kinds[i].has
	for _, name := range names {
		if !strings.ContainsRune(has, name) {
			return false
		}
	}
	return strings.Contains(has, "d") == strings.Contains(names, "d")
}

func TestCheckOfRightCommands(t *testing.T) {
	each(func(c api.Cmd, text string) {
		if e := cmd.Check(c); e != api.OK {
			t.Errorf("%s: %d", text, e)
		}
	})
}

// Each number of each kind, one below and one above what may be, and far from it.
func TestCheckOfWrongNumbers(t *testing.T) {
	for _, k := range kinds {
		for _, name := range k.has {
			for _, v := range []int{math.MinInt, -1000, -1, api.MaxValue + 1, math.MaxInt} {
				places := 1
				if name == 'd' {
					places = api.ZoneSize
				}
				for place := range places {
					c := build(k.kind, k.has, 1, 2, 3, many(api.ZoneSize, 4))
					switch name {
					case 'z':
						c.Z = v
					case 'a':
						c.At = v
					case 'n':
						c.N = v
					case 'd':
						c.Data[place] = v
					}
					if e := cmd.Check(c); e != api.ErrRange {
						t.Errorf("%+v: %d, want %d", c, e, api.ErrRange)
					}
				}
			}
		}
	}
}

func TestCheckErrorsAndWhichIsFirst(t *testing.T) {
	for _, c := range faults {
		if e := cmd.Check(c.c); e != c.want {
			t.Errorf("%s: %d, want %d", c.name, e, c.want)
		}
	}
}

// faults: commands, and what is wrong with them; OK: nothing.
var faults = []struct {
	name string
	c    api.Cmd
	want api.Errno
}{
	{"zero", api.Cmd{}, api.ErrForm},
	{"least kind", api.Cmd{Kind: math.MinInt}, api.ErrForm},
	{"kind below", api.Cmd{Kind: -1}, api.ErrForm},
	{"kind above", api.Cmd{Kind: api.CClear + 1}, api.ErrForm},
	{"greatest kind", api.Cmd{Kind: math.MaxInt}, api.ErrForm},
	{"all zero but the kind", api.Cmd{Kind: api.COpen}, api.OK},
	{"empty Data of one that has none", api.Cmd{Kind: api.CRead, Data: []int{}}, api.OK},
	{"empty Data of clear", api.Cmd{Kind: api.CClear, Data: []int{}}, api.OK},
	{"nil Data of append", api.Cmd{Kind: api.CAppend, Z: 1}, api.ErrForm},
	{"empty Data of append", api.Cmd{Kind: api.CAppend, Z: 1, Data: []int{}}, api.ErrForm},
	{"empty Data of write", api.Cmd{Kind: api.CWrite, Z: 1, At: 2, Data: []int{}}, api.ErrForm},
	{"one 0 in Data", api.Cmd{Kind: api.CAppend, Data: []int{0}}, api.OK},
	{"one 0 in Data of open", api.Cmd{Kind: api.COpen, Data: []int{0}}, api.ErrForm},
	{"a zone of Data", api.Cmd{Kind: api.CAppend, Data: many(8, 1)}, api.OK},
	{"more than a zone of Data", api.Cmd{Kind: api.CAppend, Data: many(9, 1)}, api.ErrMany},
	{"far more than a zone of Data", api.Cmd{Kind: api.CWrite, Data: many(5000, 1)}, api.ErrMany},
	{"At of write isn't held against the zone's size", api.Cmd{Kind: api.CWrite, At: 999, Data: many(8, 1)}, api.OK},
	{"Z isn't held against how many zones there are", api.Cmd{Kind: api.COpen, Z: 999}, api.OK},
	{"N isn't held against the greatest key", api.Cmd{Kind: api.CRegister, N: 999}, api.OK},
	{"N isn't held against the types", api.Cmd{Kind: api.CReserve, N: 0}, api.OK},
	{"write at N", api.Cmd{Kind: api.CWrite, N: 1, Data: many(1, 1)}, api.ErrForm},
	{"no kind ahead of too many", api.Cmd{Kind: 13, Data: many(9, 1)}, api.ErrForm},
	{"no kind ahead of range", api.Cmd{Z: -1}, api.ErrForm},
	{"what it doesn't have ahead of too many", api.Cmd{Kind: api.COpen, Data: many(9, 1)}, api.ErrForm},
	{"At of append ahead of too many", api.Cmd{Kind: api.CAppend, At: 1, Data: many(9, 1)}, api.ErrForm},
	{"what it doesn't have ahead of its own range", api.Cmd{Kind: api.COpen, At: -1}, api.ErrForm},
	{"what it doesn't have ahead of range", api.Cmd{Kind: api.COpen, Z: 1000, N: 1}, api.ErrForm},
	{"Data that it doesn't have ahead of range", api.Cmd{Kind: api.CRead, Z: -1, Data: []int{-1}}, api.ErrForm},
	{"no Data ahead of range", api.Cmd{Kind: api.CAppend, Z: 1000}, api.ErrForm},
	{"too many ahead of range of Z", api.Cmd{Kind: api.CAppend, Z: -1, Data: many(9, 1)}, api.ErrMany},
	{"too many ahead of range of At", api.Cmd{Kind: api.CWrite, At: 1000, Data: many(9, 1)}, api.ErrMany},
	{"too many ahead of range of Data", api.Cmd{Kind: api.CAppend, Data: with(9, 0, -1)}, api.ErrMany},
}

func TestSame(t *testing.T) {
	full := api.Cmd{Kind: 6, Z: 1, N: 2, At: 3, Data: []int{4, 5}}
	for _, c := range []struct {
		name string
		a, b api.Cmd
		want bool
	}{
		{"zero", api.Cmd{}, api.Cmd{}, true},
		{"nil and empty", api.Cmd{Kind: 1}, api.Cmd{Kind: 1, Data: []int{}}, true},
		{"alike", full, api.Cmd{Kind: 6, Z: 1, N: 2, At: 3, Data: []int{4, 5}}, true},
		{"alike, but wrong", api.Cmd{Kind: 99, Z: -1, N: -2, At: -3, Data: many(20, -4)}, api.Cmd{Kind: 99, Z: -1, N: -2, At: -3, Data: many(20, -4)}, true},
		{"spare room", api.Cmd{Kind: 5, Data: []int{4, 5, 6}[:2]}, api.Cmd{Kind: 5, Data: []int{4, 5}}, true},
		{"kind", full, api.Cmd{Kind: 5, Z: 1, N: 2, At: 3, Data: []int{4, 5}}, false},
		{"wrong kinds", api.Cmd{Kind: 98}, api.Cmd{Kind: 99}, false},
		{"Z", full, api.Cmd{Kind: 6, Z: 2, N: 2, At: 3, Data: []int{4, 5}}, false},
		{"N", full, api.Cmd{Kind: 6, Z: 1, N: 3, At: 3, Data: []int{4, 5}}, false},
		{"At", full, api.Cmd{Kind: 6, Z: 1, N: 2, At: 4, Data: []int{4, 5}}, false},
		{"N and At the other way round", full, api.Cmd{Kind: 6, Z: 1, N: 3, At: 2, Data: []int{4, 5}}, false},
		{"Z and At the other way round", full, api.Cmd{Kind: 6, Z: 3, N: 2, At: 1, Data: []int{4, 5}}, false},
		{"what its kind doesn't have", api.Cmd{Kind: 12, N: 1}, api.Cmd{Kind: 12}, false},
		{"Data that its kind doesn't have", api.Cmd{Kind: 1, Data: []int{0}}, api.Cmd{Kind: 1}, false},
		{"first of Data", full, api.Cmd{Kind: 6, Z: 1, N: 2, At: 3, Data: []int{9, 5}}, false},
		{"last of Data", full, api.Cmd{Kind: 6, Z: 1, N: 2, At: 3, Data: []int{4, 9}}, false},
		{"less Data", full, api.Cmd{Kind: 6, Z: 1, N: 2, At: 3, Data: []int{4}}, false},
		{"no Data", full, api.Cmd{Kind: 6, Z: 1, N: 2, At: 3}, false},
	} {
		if cmd.Same(c.a, c.b) != c.want || cmd.Same(c.b, c.a) != c.want {
			t.Errorf("%s: want %v", c.name, c.want)
		}
	}
}

// P4.2

// texts: commands of each kind, and how they are written.
var texts = []struct {
	text string
	c    api.Cmd
}{
	{"open 0", api.Cmd{Kind: api.COpen}},
	{"open 3", api.Cmd{Kind: api.COpen, Z: 3}},
	{"close 999", api.Cmd{Kind: api.CClose, Z: 999}},
	{"finish 10", api.Cmd{Kind: api.CFinish, Z: 10}},
	{"reset 100", api.Cmd{Kind: api.CReset, Z: 100}},
	{"append 1 2", api.Cmd{Kind: api.CAppend, Z: 1, Data: []int{2}}},
	{"append 0 0", api.Cmd{Kind: api.CAppend, Data: []int{0}}},
	{"append 1 9 8 7 6 5 4 3 2", api.Cmd{Kind: api.CAppend, Z: 1, Data: []int{9, 8, 7, 6, 5, 4, 3, 2}}},
	{"write 1 2 3", api.Cmd{Kind: api.CWrite, Z: 1, At: 2, Data: []int{3}}},
	{"write 0 7 999 0 999", api.Cmd{Kind: api.CWrite, At: 7, Data: []int{999, 0, 999}}},
	{"write 1 2 9 8 7 6 5 4 3 2", api.Cmd{Kind: api.CWrite, Z: 1, At: 2, Data: []int{9, 8, 7, 6, 5, 4, 3, 2}}},
	{"read 1 2 3", api.Cmd{Kind: api.CRead, Z: 1, At: 2, N: 3}},
	{"read 0 0 0", api.Cmd{Kind: api.CRead}},
	{"register 0", api.Cmd{Kind: api.CRegister}},
	{"register 9", api.Cmd{Kind: api.CRegister, N: 9}},
	{"reserve 4", api.Cmd{Kind: api.CReserve, N: 4}},
	{"release", api.Cmd{Kind: api.CRelease}},
	{"preempt 7", api.Cmd{Kind: api.CPreempt, N: 7}},
	{"clear", api.Cmd{Kind: api.CClear}},
}

func TestPrintAndParse(t *testing.T) {
	for _, c := range texts {
		if s, e := cmd.Print(c.c); s != c.text || e != api.OK {
			t.Errorf("%+v: %q %d, want %q", c.c, s, e, c.text)
		}
		if got, e := cmd.Parse(c.text); !alike(got, c.c) || e != api.OK {
			t.Errorf("%q: %+v %d, want %+v", c.text, got, e, c.c)
		}
	}
}

func TestPrintSaysChecksError(t *testing.T) {
	for _, c := range faults {
		s, e := cmd.Print(c.c)
		if e != c.want || (s == "") != (e != api.OK) {
			t.Errorf("%s: %q %d, want %d", c.name, s, e, c.want)
		}
	}
}

// tryWrong parses a text that is no right command: all but the error is zero.
func tryWrong(t *testing.T, s string, want api.Errno) {
	t.Helper()
	if c, e := cmd.Parse(s); e != want || !alike(c, api.Cmd{}) {
		t.Errorf("%.40q: %+v %d, want %d", s, c, e, want)
	}
}

func TestParseOfWhatIsNotWrittenSo(t *testing.T) {
	for _, s := range []string{
		"", " ", "  ", "\n", "\x00", "\xff", "1", "0", "-1", "open1", "1 open", "zone 1", "stop 1", "opens 1", "ope 1", "pen 1", // no word
		"Open 1", "OPEN 1", "oPen 1", "\u043epen 1", "open\u00a01", "0 1", "5 1 2", "12", // another word, or a kind's number
		" open 1", "open 1 ", "open  1", "open\t1", "open\n1", "open 1\n", "open 1\r", "\topen 1", "open\v1", "open \t1", "clear ", " clear", "clear\n", "release  ", // other blanks
		"read 1  2 3", "read 1\t2 3", "read 1 2 3 ", "append 1 2  3", "append 1 2 ", "write 1 2 3 \n", "open,1", "read 1,2,3", "append 1 [2]", "open: 1",
		"open +1", "open -0", "open --1", "open +0", "open - 1", "open -", "open +", "open 1-", "append 1 +2", "read 1 2 -03", // signs
		"open 01", "open 00", "open -01", "open 0001", "append 1 02", "write 1 02 3", "read 1 2 00", "register 09", // zeros ahead
		"open x", "open 1x", "open x1", "open 0x1", "open 0b1", "open 0o1", "open 1_0", "open 1.0", "open 1.", "open .1", "open 1e1", "open one", "open ''", "open \u0661", "open \uff11", // no numbers
		"open 9223372036854775808", "open -9223372036854775809", "open 99999999999999999999999999", "append 1 2 18446744073709551616", // numbers that Itoa never writes
		"open", "close", "finish", "reset", "append", "append 1", "write", "write 1", "write 1 2", "read", "read 1", "read 1 2", "register", "reserve", "preempt", // too few
		"open 1 2", "close 1 2", "finish 1 2", "reset 1 2", "read 1 2 3 4", "register 1 2", "reserve 1 2", "preempt 1 2", "release 1", "clear 1", "clear 0", "release 0", // too many
		"open 1 close 1", "open 1\nopen 2", "clear clear", "open open", "append 1 2 append",
	} {
		tryWrong(t, s, api.ErrText)
	}
}

func TestParseErrorsAndWhichIsFirst(t *testing.T) {
	for _, c := range []struct {
		text string
		want api.Errno
	}{
		{"open 1000", api.ErrRange},
		{"open -1", api.ErrRange},
		{"open 9223372036854775807", api.ErrRange},
		{"open -9223372036854775808", api.ErrRange},
		{"read 1000 2 3", api.ErrRange},
		{"read 1 1000 3", api.ErrRange},
		{"read 1 2 1000", api.ErrRange},
		{"register -1", api.ErrRange},
		{"reserve 1000", api.ErrRange},
		{"preempt -5", api.ErrRange},
		{"append 1 2 -1", api.ErrRange},
		{"append 1 1000 2", api.ErrRange},
		{"write 1 -1 2", api.ErrRange},
		{"append 1 1 2 3 4 5 6 7 8 9", api.ErrMany},
		{"write 1 2 1 2 3 4 5 6 7 8 9", api.ErrMany},
		{"append -1 1 2 3 4 5 6 7 8 9", api.ErrMany}, // Check's first
		{"append 1 1 2 3 4 5 6 7 8 1000", api.ErrMany},
		{"write 1 1000 1 2 3 4 5 6 7 8 9", api.ErrMany},
		{"open 1000 1", api.ErrText}, // how it is written, ahead of Check
		{"open -1 x", api.ErrText},
		{"clear -1", api.ErrText},
		{"stop 1000", api.ErrText},
		{"read 1000 2", api.ErrText},
		{"append -1", api.ErrText},
		{"append 1 1 2 3 4 5 6 7 8 09", api.ErrText},
		{"append 1 1 2 3 4 5 6 7 8 9 ", api.ErrText},
	} {
		tryWrong(t, c.text, c.want)
	}
}

func TestParseOfLongTexts(t *testing.T) {
	long := "append 1" + strings.Repeat(" 1", api.MaxText)
	odd := strings.Repeat("x", api.MaxText+1)
	accents := strings.Repeat("\u00e9", api.MaxText/2+1) // fewer runes than may be, but more bytes
	for _, c := range []struct {
		text string
		want api.Errno
	}{
		{long[:api.MaxText], api.ErrMany}, // Check's: too much Data
		{long[:api.MaxText-1], api.ErrText},
		{long[:api.MaxText+1], api.ErrMany},
		{long, api.ErrMany},
		{odd[:api.MaxText], api.ErrText},
		{odd, api.ErrMany},
		{accents, api.ErrMany},
		{accents[:api.MaxText], api.ErrText},
		{strings.Repeat(" ", api.MaxText), api.ErrText},
		{strings.Repeat(" ", api.MaxText+1), api.ErrMany},
		{"open " + strings.Repeat("9", api.MaxText-5), api.ErrText},
		{"open " + strings.Repeat("0", api.MaxText-5), api.ErrText},
		{"open 1" + strings.Repeat(" ", api.MaxText), api.ErrMany},
		{"append 1 2 x" + strings.Repeat(" 1", api.MaxText), api.ErrMany},
	} {
		tryWrong(t, c.text, c.want)
	}
}

// P4.3

func TestParseOfPrintIsTheCommand(t *testing.T) {
	each(func(c api.Cmd, text string) {
		s, e := cmd.Print(c)
		if s != text || e != api.OK {
			t.Errorf("%+v: %q %d, want %q", c, s, e, text)
		}
		back, e := cmd.Parse(s)
		if !alike(back, c) || !cmd.Same(back, c) || e != api.OK {
			t.Errorf("%q: %+v %d, want %+v", s, back, e, c)
		}
	})
}

// Of two texts no more than one tells a command: one that is a byte off is wrong, or tells what prints as it.
func TestTextsThatAreAByteOff(t *testing.T) {
	for _, c := range texts {
		for at := range len(c.text) + 1 {
			for b := range 256 {
				tryText(t, c.text[:at]+string([]byte{byte(b)})+c.text[at:])
				if at < len(c.text) {
					tryText(t, c.text[:at]+string([]byte{byte(b)})+c.text[at+1:])
				}
			}
			if at < len(c.text) {
				tryText(t, c.text[:at]+c.text[at+1:])
			}
		}
	}
}

// tryText parses a text that may be right or wrong.
func tryText(t *testing.T, s string) {
	t.Helper()
	c, e := cmd.Parse(s)
	if e != api.OK {
		if !alike(c, api.Cmd{}) {
			t.Errorf("%q: an error, and %+v", s, c)
		}
		return
	}
	if back, f := cmd.Print(c); back != s || f != api.OK {
		t.Errorf("%q is read as %+v, which is %q %d", s, c, back, f)
	}
}

// P2 of the document: what is handed in is only read, what is answered is new memory.

func TestHandedInIsOnlyRead(t *testing.T) {
	for _, c := range faults {
		room := slices.Concat(c.c.Data, []int{71, 72, 73})
		handed := c.c
		handed.Data = room[:len(c.c.Data)]
		before := fmt.Sprint(handed, room)
		cmd.Check(handed)
		cmd.Same(handed, handed)
		cmd.Print(handed)
		if after := fmt.Sprint(handed, room); after != before {
			t.Errorf("%s: %s, was %s", c.name, after, before)
		}
	}
}

func TestAnsweredIsNewMemory(t *testing.T) {
	each(func(c api.Cmd, text string) {
		a, _ := cmd.Parse(text)
		b, _ := cmd.Parse(text)
		scribble(a.Data)
		if !alike(b, c) {
			t.Errorf("%q: two answers share memory: %+v", text, b)
		}
		if again, e := cmd.Parse(text); !alike(again, c) || e != api.OK {
			t.Errorf("%q, again: %+v %d", text, again, e)
		}
		kept, _ := cmd.Print(c)
		scribble(c.Data)
		if kept != text {
			t.Errorf("%q, was %q", kept, text)
		}
	})
}

// scribble writes over l and the spare room behind it.
func scribble(l []int) {
	l = l[:cap(l)]
	for i := range l {
		l[i] = -9
	}
}
