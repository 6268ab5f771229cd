package note_test

import (
	"fmt"
	"math"
	"slices"
	"strings"
	"testing"

	"quayhand/api"
	"quayhand/cmd"
	"quayhand/note"
)

// rec: hand who asked c, as its command seq.
func rec(who, seq int, c api.Cmd) api.Rec { return api.Rec{Who: who, Seq: seq, C: c} }

// plain: a command that has nothing.
var plain = api.Cmd{Kind: api.CClear}

// alike: are these the same, field by field?
func alike(a, b api.Rec) bool {
	return a.Who == b.Who && a.Seq == b.Seq && a.C.Kind == b.C.Kind &&
		a.C.Z == b.C.Z && a.C.N == b.C.N && a.C.At == b.C.At && slices.Equal(a.C.Data, b.C.Data)
}

// many: n times v.
func many(n, v int) []int { return slices.Repeat([]int{v}, n) }

// texts: records of each kind of command, and how they are written.
var texts = []struct {
	text string
	r    api.Rec
}{
	{"0 1: open 0", rec(0, 1, api.Cmd{Kind: api.COpen})},
	{"1 2: open 3", rec(1, 2, api.Cmd{Kind: api.COpen, Z: 3})},
	{"2 40: close 999", rec(2, 40, api.Cmd{Kind: api.CClose, Z: 999})},
	{"0 9: finish 10", rec(0, 9, api.Cmd{Kind: api.CFinish, Z: 10})},
	{"1 10: reset 100", rec(1, 10, api.Cmd{Kind: api.CReset, Z: 100})},
	{"1 3: append 2 7", rec(1, 3, api.Cmd{Kind: api.CAppend, Z: 2, Data: []int{7}})},
	{"2 11: append 1 9 8 7 6 5 4 3 2", rec(2, 11, api.Cmd{Kind: api.CAppend, Z: 1, Data: []int{9, 8, 7, 6, 5, 4, 3, 2}})},
	{"0 39: write 1 2 3", rec(0, 39, api.Cmd{Kind: api.CWrite, Z: 1, At: 2, Data: []int{3}})},
	{"1 1: write 0 7 999 0 999", rec(1, 1, api.Cmd{Kind: api.CWrite, At: 7, Data: []int{999, 0, 999}})},
	{"2 1: read 1 2 3", rec(2, 1, api.Cmd{Kind: api.CRead, Z: 1, At: 2, N: 3})},
	{"0 20: register 0", rec(0, 20, api.Cmd{Kind: api.CRegister})},
	{"1 30: reserve 4", rec(1, 30, api.Cmd{Kind: api.CReserve, N: 4})},
	{"2 5: release", rec(2, 5, api.Cmd{Kind: api.CRelease})},
	{"0 33: preempt 7", rec(0, 33, api.Cmd{Kind: api.CPreempt, N: 7})},
	{"0 40: clear", rec(0, 40, plain)},
}

// some commands, of all kinds; they look alike where they may.
var some = []string{
	"open 0", "open 1", "open 10", "close 2", "finish 3", "reset 999",
	"append 0 0", "append 1 1", "append 1 1 1", "append 11 1", "append 1 11", "append 3 1 2 3 4 5 6 7 999",
	"write 0 0 0", "write 1 1 1", "write 2 7 1 2 3 4 5 6 7 8",
	"read 0 0 0", "read 1 2 3", "read 3 2 1", "register 0", "register 9",
	"reserve 1", "reserve 4", "release", "preempt 1", "preempt 9", "clear",
}

// each goes through all hands and numbers with some commands, with their texts.
func each(do func(r api.Rec, text string)) {
	for _, told := range some {
		c, e := cmd.Parse(told)
		if e != api.OK {
			panic(fmt.Sprint(told, ": ", e))
		}
		for who := range api.MaxHands {
			for seq := 1; seq <= api.MaxSeq; seq++ {
				own := c
				own.Data = slices.Clone(c.Data)
				do(rec(who, seq, own), fmt.Sprintf("%d %d: %s", who, seq, told))
			}
		}
	}
}

// P6.1

func TestCheckOfEachWhoAndSeq(t *testing.T) {
	for who := -3; who <= api.MaxHands+3; who++ {
		for seq := -3; seq <= api.MaxSeq+3; seq++ {
			want := api.ErrRange
			if who >= 0 && who <= 2 && seq >= 1 && seq <= 40 {
				want = api.OK
			}
			if e := note.Check(rec(who, seq, plain)); e != want {
				t.Errorf("%d %d: %d, want %d", who, seq, e, want)
			}
		}
	}
}

// faults: records, and what is wrong with them; OK: nothing.
var faults = []struct {
	name string
	r    api.Rec
	want api.Errno
}{
	{"least", rec(0, 1, plain), api.OK},
	{"greatest", rec(2, 40, plain), api.OK},
	{"Data", rec(1, 3, api.Cmd{Kind: api.CAppend, Z: 2, Data: many(8, 7)}), api.OK},
	{"empty Data that it doesn't have", rec(1, 3, api.Cmd{Kind: api.CRead, Data: []int{}}), api.OK},
	{"Z isn't held against how many zones there are", rec(1, 3, api.Cmd{Kind: api.COpen, Z: 999}), api.OK},
	{"zero", api.Rec{}, api.ErrRange},
	{"Who below", rec(-1, 1, plain), api.ErrRange},
	{"Who above", rec(3, 1, plain), api.ErrRange},
	{"least Who", rec(math.MinInt, 1, plain), api.ErrRange},
	{"greatest Who", rec(math.MaxInt, 1, plain), api.ErrRange},
	{"Seq 0", rec(0, 0, plain), api.ErrRange},
	{"Seq below", rec(0, -1, plain), api.ErrRange},
	{"Seq above", rec(0, 41, plain), api.ErrRange},
	{"least Seq", rec(0, math.MinInt, plain), api.ErrRange},
	{"greatest Seq", rec(0, math.MaxInt, plain), api.ErrRange},
	{"no kind", api.Rec{Seq: 1}, api.ErrForm},
	{"kind below", rec(0, 1, api.Cmd{Kind: -1}), api.ErrForm},
	{"kind above", rec(0, 1, api.Cmd{Kind: 13}), api.ErrForm},
	{"what it doesn't have", rec(0, 1, api.Cmd{Kind: api.COpen, N: 1}), api.ErrForm},
	{"no Data", rec(0, 1, api.Cmd{Kind: api.CAppend, Data: []int{}}), api.ErrForm},
	{"too much Data", rec(0, 1, api.Cmd{Kind: api.CAppend, Data: many(9, 1)}), api.ErrMany},
	{"Z above", rec(0, 1, api.Cmd{Kind: api.COpen, Z: 1000}), api.ErrRange},
	{"one of Data below", rec(0, 1, api.Cmd{Kind: api.CAppend, Data: []int{1, -1}}), api.ErrRange},
	{"Who ahead of no kind", rec(3, 1, api.Cmd{}), api.ErrRange},
	{"Seq ahead of no kind", rec(0, 0, api.Cmd{}), api.ErrRange},
	{"Who ahead of what it doesn't have", rec(-1, 1, api.Cmd{Kind: api.COpen, N: 1}), api.ErrRange},
	{"Seq ahead of no Data", rec(0, 41, api.Cmd{Kind: api.CAppend}), api.ErrRange},
	{"Who ahead of too much Data", rec(3, 1, api.Cmd{Kind: api.CAppend, Data: many(9, 1)}), api.ErrRange},
	{"Seq ahead of too much Data", rec(0, 0, api.Cmd{Kind: api.CWrite, Data: many(5000, 1)}), api.ErrRange},
	{"form ahead of range in the command", rec(0, 1, api.Cmd{Kind: api.COpen, Z: -1, At: 1}), api.ErrForm},
	{"many ahead of range in the command", rec(0, 1, api.Cmd{Kind: api.CAppend, Z: -1, Data: many(9, 1)}), api.ErrMany},
}

func TestCheckErrorsAndWhichIsFirst(t *testing.T) {
	for _, c := range faults {
		if e := note.Check(c.r); e != c.want {
			t.Errorf("%s: %d, want %d", c.name, e, c.want)
		}
	}
}

// full: each field is another number, so that none stands for another.
func full() api.Rec {
	return rec(1, 9, api.Cmd{Kind: 6, Z: 2, N: 3, At: 4, Data: []int{5, 7}})
}

// but: full, changed.
func but(change func(r *api.Rec)) api.Rec {
	r := full()
	change(&r)
	return r
}

func TestSame(t *testing.T) {
	wrong := func() api.Rec {
		return rec(-5, 99, api.Cmd{Kind: 77, Z: -1, N: -2, At: -3, Data: many(20, -4)})
	}
	for _, c := range []struct {
		name string
		a, b api.Rec
		want bool
	}{
		{"zero", api.Rec{}, api.Rec{}, true},
		{"alike", full(), full(), true},
		{"alike, but wrong", wrong(), wrong(), true},
		{"nil and empty", rec(1, 2, plain), rec(1, 2, api.Cmd{Kind: api.CClear, Data: []int{}}), true},
		{"spare room", full(), but(func(r *api.Rec) { r.C.Data = []int{5, 7, 8}[:2] }), true},
		{"Who", full(), but(func(r *api.Rec) { r.Who = 0 }), false},
		{"Seq", full(), but(func(r *api.Rec) { r.Seq = 10 }), false},
		{"Who and Seq the other way round", full(), but(func(r *api.Rec) { r.Who, r.Seq = r.Seq, r.Who }), false},
		{"wrong Who", rec(-1, 0, plain), rec(3, 0, plain), false},
		{"wrong Seq", rec(0, 0, plain), rec(0, 41, plain), false},
		{"Kind", full(), but(func(r *api.Rec) { r.C.Kind = 5 }), false},
		{"Z", full(), but(func(r *api.Rec) { r.C.Z = 0 }), false},
		{"N", full(), but(func(r *api.Rec) { r.C.N = 0 }), false},
		{"At", full(), but(func(r *api.Rec) { r.C.At = 0 }), false},
		{"one of Data", full(), but(func(r *api.Rec) { r.C.Data[1] = 8 }), false},
		{"less Data", full(), but(func(r *api.Rec) { r.C.Data = r.C.Data[:1] }), false},
		{"no Data", full(), but(func(r *api.Rec) { r.C.Data = nil }), false},
	} {
		if note.Same(c.a, c.b) != c.want || note.Same(c.b, c.a) != c.want {
			t.Errorf("%s: want %v", c.name, c.want)
		}
	}
}

// P6.2

func TestPrintAndParse(t *testing.T) {
	for _, c := range texts {
		if s, e := note.Print(c.r); s != c.text || e != api.OK {
			t.Errorf("%+v: %q %d, want %q", c.r, s, e, c.text)
		}
		if got, e := note.Parse(c.text); !alike(got, c.r) || e != api.OK {
			t.Errorf("%q: %+v %d, want %+v", c.text, got, e, c.r)
		}
	}
}

func TestPrintSaysChecksError(t *testing.T) {
	for _, c := range faults {
		s, e := note.Print(c.r)
		if e != c.want || (s == "") != (e != api.OK) {
			t.Errorf("%s: %q %d, want %d", c.name, s, e, c.want)
		}
	}
}

// tryWrong parses a text that is no right record's: all but the error is zero.
func tryWrong(t *testing.T, s string, want api.Errno) {
	t.Helper()
	if r, e := note.Parse(s); e != want || !alike(r, api.Rec{}) {
		t.Errorf("%.40q: %+v %d, want %d", s, r, e, want)
	}
}

func TestParseOfWhatIsNotWrittenSo(t *testing.T) {
	for _, s := range []string{
		"", " ", ":", ": ", " : ", "\n", "\x00", "\xff", "clear", ": clear", " : clear", "  : clear", // nothing ahead of the command
		"1: clear", "1 : clear", " 1: clear", "13: clear", "1 3", "1 3:", "1 3: ", "1 3 ", "1", "1 ", // something is missing
		"1 2 3: clear", "1 3 4: clear", "1 3: 4: clear", "1 3: 1 3: clear", "1 3: clear: ", "1 3: clear 1 3: clear", // something more
		"1 3:clear", "1 3 clear", "1 3 : clear", "1 3:  clear", "1 3:\tclear", "1 3:\nclear", "1 3:\u00a0clear", "1 3:: clear", "1 3: : clear", "1 3; clear", "1 3, clear", "1 3. clear", "1 3\uff1a clear", // other marks
		" 1 3: clear", "1  3: clear", "1\t3: clear", "1\n3: clear", "\t1 3: clear", "1 3: clear ", "1 3: clear\n", "\n1 3: clear", "1 3: clear\r\n", "1,3: clear", "1:3: clear", "1: 3: clear", "1: 3 clear", "1-3: clear", // other blanks
		"+1 3: clear", "1 +3: clear", "-0 3: clear", "1 -0: clear", "--1 3: clear", "1 - 3: clear", "- 3: clear", "1 -: clear", "+ +: clear", // signs
		"01 3: clear", "00 3: clear", "1 03: clear", "1 00: clear", "-01 3: clear", "1 -03: clear", "001 3: clear", // zeros ahead
		"x 3: clear", "1 x: clear", "1x 3: clear", "1 3x: clear", "0x1 3: clear", "1 0x3: clear", "1_0 3: clear", "1 1_0: clear", "1.0 3: clear", "1 3.: clear", "1e0 3: clear", "one 3: clear", "\u0661 3: clear", "1 \uff13: clear", // no numbers
		"9223372036854775808 3: clear", "1 9223372036854775808: clear", "-9223372036854775809 3: clear", "1 99999999999999999999999999: clear", // numbers that Itoa never writes
		"1 3: stop", "1 3: Clear", "1 3: CLEAR", "1 3: clear 1", "1 3: open", "1 3: open x", "1 3: open 01", "1 3: open +1", "1 3: open  1", "1 3: append 1", "1 3: write 1 2", "1 3: read 1 2", "1 3: 12", "1 3: open: 1", "1 3: release\n1 4: clear", // no command
		"clear: 1 3", "clear 1 3", "3: 1 clear", "open 1: 1 3", // the other way round
	} {
		tryWrong(t, s, api.ErrText)
	}
}

func TestParseErrorsAndWhichIsFirst(t *testing.T) {
	for _, c := range []struct {
		text string
		want api.Errno
	}{
		{"3 1: clear", api.ErrRange},
		{"-1 1: clear", api.ErrRange},
		{"9223372036854775807 1: clear", api.ErrRange},
		{"-9223372036854775808 1: clear", api.ErrRange},
		{"1 0: clear", api.ErrRange},
		{"1 41: clear", api.ErrRange},
		{"1 -1: clear", api.ErrRange},
		{"1 9223372036854775807: clear", api.ErrRange},
		{"1 -9223372036854775808: clear", api.ErrRange},
		{"1 1: open 1000", api.ErrRange}, // the command's
		{"1 1: open -1", api.ErrRange},
		{"1 1: append 1 2 1000", api.ErrRange},
		{"1 1: append 1 1 2 3 4 5 6 7 8 9", api.ErrMany},
		{"1 1: append -1 1 2 3 4 5 6 7 8 9", api.ErrMany},
		{"3 1: stop", api.ErrText}, // the command's ahead of Check's
		{"1 0: stop", api.ErrText},
		{"1 41: ", api.ErrText},
		{"-1 -1: open 01", api.ErrText},
		{"3 1: append 1 1 2 3 4 5 6 7 8 9", api.ErrMany},
		{"1 0: write 1 2 1 2 3 4 5 6 7 8 9", api.ErrMany},
		{"3 0: open 1000", api.ErrRange},
		{"1 01: append 1 1 2 3 4 5 6 7 8 9", api.ErrText}, // how it is written ahead of the command's
		{"+1 1: append 1 1 2 3 4 5 6 7 8 9", api.ErrText},
		{"1 1:append 1 1 2 3 4 5 6 7 8 9", api.ErrText},
		{"1 x: open 1000", api.ErrText},
		{"1: open 1000", api.ErrText},
		{"3 01: clear", api.ErrText}, // and ahead of Check's
		{"01 0: clear", api.ErrText},
		{"3 41 clear", api.ErrText},
	} {
		tryWrong(t, c.text, c.want)
	}
}

func TestParseOfLongTexts(t *testing.T) {
	const ahead = "1 3: "
	long := ahead + "append 11" + strings.Repeat(" 1", api.MaxText)
	odd := strings.Repeat("x", api.MaxText+1)
	accents := strings.Repeat("\u00e9", api.MaxText/2+1) // fewer runes than may be, but more bytes
	for _, c := range []struct {
		text string
		want api.Errno
	}{
		{long[:api.MaxText], api.ErrMany}, // the command's: too much Data
		{long[:api.MaxText-1], api.ErrText},
		{long[:api.MaxText+1], api.ErrMany},
		{long, api.ErrMany},
		{odd[:api.MaxText], api.ErrText},
		{odd, api.ErrMany},
		{accents, api.ErrMany},
		{accents[:api.MaxText], api.ErrText},
		{ahead + odd[:api.MaxText-len(ahead)], api.ErrText},
		{ahead + odd[:api.MaxText-len(ahead)+1], api.ErrMany}, // the command alone isn't too long
		{ahead + "clear" + strings.Repeat(" ", api.MaxText-len(ahead)-5), api.ErrText},
		{ahead + "clear" + strings.Repeat(" ", api.MaxText), api.ErrMany},
		{strings.Repeat("9", api.MaxText-9) + " 3: clear", api.ErrText},
		{strings.Repeat("9", api.MaxText-8) + " 3: clear", api.ErrMany},
		{"1 " + strings.Repeat("0", api.MaxText-10) + "3: clear", api.ErrText},
		{strings.Repeat(": ", api.MaxText/2), api.ErrText},
		{strings.Repeat(": ", api.MaxText/2) + ":", api.ErrMany},
		{"3 0: clear" + strings.Repeat("\n", api.MaxText), api.ErrMany},
	} {
		tryWrong(t, c.text, c.want)
	}
}

// P6.3

func TestParseOfPrintIsTheRecord(t *testing.T) {
	each(func(r api.Rec, text string) {
		s, e := note.Print(r)
		if s != text || e != api.OK {
			t.Errorf("%+v: %q %d, want %q", r, s, e, text)
		}
		back, e := note.Parse(s)
		if !alike(back, r) || !note.Same(back, r) || e != api.OK {
			t.Errorf("%q: %+v %d, want %+v", s, back, e, r)
		}
	})
}

func TestUnlikeRecordsHaveUnlikeTexts(t *testing.T) {
	of := map[string]api.Rec{}
	each(func(r api.Rec, _ string) {
		s, _ := note.Print(r)
		if other, ok := of[s]; ok {
			t.Errorf("%q is told of %+v and of %+v", s, other, r)
		}
		of[s] = r
	})
	if want := len(some) * api.MaxHands * api.MaxSeq; len(of) != want {
		t.Errorf("%d texts, want %d", len(of), want)
	}
}

// What is read is printed as it was: a text that is a byte off is wrong, or it is that of the record that it tells.
func TestTextsThatAreAByteOff(t *testing.T) {
	for _, c := range texts {
		for at := range len(c.text) + 1 {
			for b := range 256 {
				tryText(t, c.text[:at]+string([]byte{byte(b)})+c.text[at:])
				if at < len(c.text) {
					tryText(t, c.text[:at]+string([]byte{byte(b)})+c.text[at+1:])
				}
			}
			if at < len(c.text) {
				tryText(t, c.text[:at]+c.text[at+1:])
			}
		}
	}
}

// All texts of some pieces ahead of a command: those of a record are taken, no others.
func TestAllShortBeginnings(t *testing.T) {
	const letters = "013-: "
	right := 0
	var grow func(s string)
	grow = func(s string) {
		if tryText(t, s+"clear") {
			right++
		}
		if len(s) == 6 {
			return
		}
		for _, b := range letters {
			grow(s + string(b))
		}
	}
	grow("")
	// Hands 0 and 1, each with 1, 3, 10, 11, 13, 30, 31, 33.
	if right != 2*8 {
		t.Errorf("%d texts are taken, want %d", right, 2*8)
	}
}

// tryText parses a text that may be right or wrong, and says which.
func tryText(t *testing.T, s string) bool {
	t.Helper()
	r, e := note.Parse(s)
	if e != api.OK {
		if !alike(r, api.Rec{}) {
			t.Errorf("%q: an error, and %+v", s, r)
		}
		return false
	}
	if back, f := note.Print(r); back != s || f != api.OK {
		t.Errorf("%q is read as %+v, which is %q %d", s, r, back, f)
	}
	return true
}

// P2 of the document: what is handed in is only read, what is answered is new memory.

func TestHandedInIsOnlyRead(t *testing.T) {
	for _, c := range faults {
		room := slices.Concat(c.r.C.Data, []int{71, 72, 73})
		handed := c.r
		handed.C.Data = room[:len(c.r.C.Data)]
		before := fmt.Sprint(handed, room)
		note.Check(handed)
		note.Same(handed, handed)
		note.Print(handed)
		if after := fmt.Sprint(handed, room); after != before {
			t.Errorf("%s: %s, was %s", c.name, after, before)
		}
	}
}

func TestAnsweredIsNewMemory(t *testing.T) {
	each(func(r api.Rec, text string) {
		a, _ := note.Parse(text)
		b, _ := note.Parse(text)
		scribble(a.C.Data)
		if !alike(b, r) {
			t.Errorf("%q: two answers share memory: %+v", text, b)
		}
		if again, e := note.Parse(text); !alike(again, r) || e != api.OK {
			t.Errorf("%q, again: %+v %d", text, again, e)
		}
		kept, _ := note.Print(r)
		scribble(r.C.Data)
		if kept != text {
			t.Errorf("%q, was %q", kept, text)
		}
	})
}

// scribble writes over l and the spare room behind it.
func scribble(l []int) {
	l = l[:cap(l)]
	for i := range l {
		l[i] = -9
	}
}
