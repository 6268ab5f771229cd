package desk_test

import (
	"fmt"
	"math"
	"slices"
	"strings"
	"testing"

	"quayhand/api"
	"quayhand/book"
	"quayhand/cmd"
	"quayhand/desk"
	"quayhand/yard"
)

// fresh is New as a text.
const fresh = "e e e e 000 -"

// made reads a desk from a text: a letter for each zone's state (e, o, h, c, f) and its blocks, a digit each; a digit for each key; who holds and by which type, or '-'.
func made(text string) api.Desk {
	pieces := strings.Fields(text)
	n := len(pieces)
	d := api.Desk{B: api.Book{Keys: digits(pieces[n-2]), Holder: -1}}
	for _, s := range pieces[:n-2] {
		d.Zones = append(d.Zones, api.Zone{State: strings.Index("eohcf", s[:1]), Data: digits(s[1:])})
	}
	if hold := pieces[n-1]; hold != "-" {
		d.B.Holder, d.B.Type = int(hold[0]-'0'), int(hold[1]-'0')
	}
	return d
}

func digits(s string) []int {
	var l []int
	for _, b := range []byte(s) {
		l = append(l, int(b-'0'))
	}
	return l
}

// told is made the other way round, so that a case shows what it asks; a desk that is zero is "".
func told(d api.Desk) string {
	if len(d.Zones) == 0 && len(d.B.Keys) == 0 && d.B.Holder == 0 && d.B.Type == 0 {
		return ""
	}
	var pieces []string
	for _, z := range d.Zones {
		pieces = append(pieces, "eohcf"[z.State:z.State+1]+row(z.Data))
	}
	hold := "-"
	if d.B.Holder != -1 || d.B.Type != 0 {
		hold = fmt.Sprint(d.B.Holder, d.B.Type)
	}
	return strings.Join(append(pieces, row(d.B.Keys), strings.ReplaceAll(hold, " ", "")), " ")
}

func row(l []int) string {
	s := ""
	for _, v := range l {
		s += fmt.Sprint(v)
	}
	return s
}

// asked: the command that a text tells; it must be a right one.
func asked(text string) api.Cmd {
	c, e := cmd.Parse(text)
	if e != api.OK {
		panic(fmt.Sprint(text, ": ", e))
	}
	return c
}

func wrote(at int) api.Answer        { return api.Answer{At: at} }
func got(data ...int) api.Answer     { return api.Answer{Data: data} }
func fail(e api.Errno) api.Answer    { return api.Answer{E: e} }
func many(n, v int) []int            { return slices.Repeat([]int{v}, n) }
func same(a, b api.Answer) bool      { return a.E == b.E && a.At == b.At && slices.Equal(a.Data, b.Data) }
func isZeroAnswer(a api.Answer) bool { return same(a, api.Answer{}) }

// P5.1

func TestNew(t *testing.T) {
	a, b := desk.New(), desk.New()
	if told(a) != fresh || desk.Check(a) != api.OK {
		t.Errorf("%v", a)
	}
	a.Zones[0].State, a.B.Keys[0] = api.Held, 7
	if told(b) != fresh || told(desk.New()) != fresh {
		t.Error("two desks share memory")
	}
}

// wrongs: desks, and what is wrong with them.
func wrongs() []wrong {
	right := made("o12 h c3 f 570 01")
	zones := func(text string) api.Desk { return api.Desk{Zones: made(text).Zones, B: right.B} }
	inBook := func(b api.Book) api.Desk { return api.Desk{Zones: right.Zones, B: b} }
	value := made("e e e o1 570 -")
	value.Zones[3].Data[0] = api.MaxValue + 1
	state := made("e e e o1 570 -")
	state.Zones[2].State = 5
	both := made("o1 o1 o1 e 570 -")
	both.B.Keys[1] = api.MaxKey + 1
	valueAndForm := api.Desk{Zones: value.Zones, B: api.Book{}}
	return []wrong{
		{"zero", api.Desk{}, api.ErrForm},
		{"no zones", api.Desk{B: right.B}, api.ErrForm},
		{"no book", api.Desk{Zones: right.Zones}, api.ErrForm},
		{"too few zones", zones("e e e 000 -"), api.ErrForm},
		{"too many zones", zones("e e e e e 000 -"), api.ErrForm},
		{"a value", value, api.ErrRange},
		{"a state", state, api.ErrForm},
		{"too many blocks", zones("e f123456789 e e 000 -"), api.ErrMany},
		{"Empty, but written", zones("e1 e e e 000 -"), api.ErrForm},
		{"too many are open", zones("o1 h o1 e 000 -"), api.ErrFull},
		{"too many are active", zones("c1 c1 c1 c1 000 -"), api.ErrFull},
		{"too few keys", inBook(made("e e e e 12 -").B), api.ErrForm},
		{"too many keys", inBook(made("e e e e 1234 -").B), api.ErrForm},
		{"a key below", inBook(api.Book{Keys: []int{1, -1, 0}, Holder: -1}), api.ErrRange},
		{"a key above", inBook(api.Book{Keys: []int{1, 0, 10}, Holder: -1}), api.ErrRange},
		{"holder below", inBook(api.Book{Keys: []int{1, 2, 3}, Holder: -2}), api.ErrRange},
		{"holder above", inBook(made("e e e e 123 31").B), api.ErrRange},
		{"type above", inBook(made("e e e e 123 05").B), api.ErrRange},
		{"somebody by no type", inBook(made("e e e e 123 00").B), api.ErrForm},
		{"holder without a key", inBook(made("e e e e 103 11").B), api.ErrForm},
		{"zones ahead of a key", both, api.ErrFull},
		{"a zone's value ahead of no keys", valueAndForm, api.ErrRange},
		{"too few zones ahead of a key", api.Desk{Zones: right.Zones[:3], B: both.B}, api.ErrForm},
	}
}

type wrong struct {
	name string
	d    api.Desk
	want api.Errno
}

func TestCheckErrorsAndWhichIsFirst(t *testing.T) {
	for _, c := range wrongs() {
		if e := desk.Check(c.d); e != c.want {
			t.Errorf("%s: %d, want %d", c.name, e, c.want)
		}
	}
}

func TestCheckOfRightDesks(t *testing.T) {
	for _, text := range append(desks(), fresh) {
		if e := desk.Check(made(text)); e != api.OK {
			t.Errorf("%s: %d", text, e)
		}
	}
	empty := api.Desk{Zones: []api.Zone{{Data: []int{}}, {}, {Data: []int{}}, {}}, B: book.New()}
	if e := desk.Check(empty); e != api.OK {
		t.Errorf("lists that are empty, not nil: %d", e)
	}
}

func TestSame(t *testing.T) {
	odd := api.Desk{Zones: []api.Zone{{State: 77, Data: []int{-5, 4000}}}, B: api.Book{Keys: []int{-1, 99}, Holder: 8, Type: -8}}
	oddToo := api.Desk{Zones: []api.Zone{{State: 77, Data: []int{-5, 4000}}}, B: api.Book{Keys: []int{-1, 99}, Holder: 8, Type: -8}}
	for _, c := range []struct {
		name string
		a, b api.Desk
		want bool
	}{
		{"zero", api.Desk{}, api.Desk{}, true},
		{"nil and empty", api.Desk{}, api.Desk{Zones: []api.Zone{}, B: api.Book{Keys: []int{}}}, true},
		{"nil and empty in a zone", desk.New(), api.Desk{Zones: []api.Zone{{}, {Data: []int{}}, {}, {}}, B: book.New()}, true},
		{"new", desk.New(), made(fresh), true},
		{"zero and new", api.Desk{}, desk.New(), false},
		{"alike", made("o12 h c3 f 570 01"), made("o12 h c3 f 570 01"), true},
		{"alike, but wrong", odd, oddToo, true},
		{"first state", made("o12 h c3 f 570 01"), made("h12 h c3 f 570 01"), false},
		{"last state", made("o12 h c3 f 570 01"), made("o12 h c3 e 570 01"), false},
		{"a block", made("o12 h c3 f 570 01"), made("o13 h c3 f 570 01"), false},
		{"a block more", made("o12 h c3 f 570 01"), made("o12 h c3 f4 570 01"), false},
		{"fewer zones", made("o12 h c3 f 570 01"), made("o12 h c3 570 01"), false},
		{"other order", made("o h c3 f 570 01"), made("h o c3 f 570 01"), false},
		{"a key", made("o12 h c3 f 570 01"), made("o12 h c3 f 571 01"), false},
		{"fewer keys", made("o12 h c3 f 570 01"), made("o12 h c3 f 57 01"), false},
		{"holder", made("o12 h c3 f 570 01"), made("o12 h c3 f 570 11"), false},
		{"type", made("o12 h c3 f 570 01"), made("o12 h c3 f 570 02"), false},
		{"zones alone", made("o12 h c3 f 570 01"), made("e e e e 570 01"), false},
		{"book alone", made("o12 h c3 f 570 01"), made("o12 h c3 f 000 -"), false},
	} {
		if desk.Same(c.a, c.b) != c.want || desk.Same(c.b, c.a) != c.want {
			t.Errorf("%s: want %v", c.name, c.want)
		}
	}
}

func TestCheckAnswer(t *testing.T) {
	for _, c := range []struct {
		name string
		a    api.Answer
		want api.Errno
	}{
		{"zero", api.Answer{}, api.OK},
		{"greatest At", api.Answer{At: 7}, api.OK},
		{"edges of values", api.Answer{Data: []int{0, 999}}, api.OK},
		{"a zone of Data", api.Answer{Data: many(8, 0)}, api.OK},
		{"At and Data", api.Answer{At: 3, Data: many(8, 5)}, api.OK},
		{"empty Data", api.Answer{Data: []int{}}, api.OK},
		{"an error and empty Data", api.Answer{E: api.ErrKey, Data: []int{}}, api.OK},
		{"E below", api.Answer{E: -1}, api.ErrRange},
		{"E above", api.Answer{E: api.ErrTorn + 1}, api.ErrRange},
		{"least E", api.Answer{E: math.MinInt}, api.ErrRange},
		{"greatest E", api.Answer{E: math.MaxInt}, api.ErrRange},
		{"At below", api.Answer{At: -1}, api.ErrRange},
		{"At above", api.Answer{At: 8}, api.ErrRange},
		{"least At", api.Answer{At: math.MinInt}, api.ErrRange},
		{"greatest At", api.Answer{At: math.MaxInt}, api.ErrRange},
		{"too much Data", api.Answer{Data: many(9, 0)}, api.ErrMany},
		{"far too much Data", api.Answer{Data: many(5000, 0)}, api.ErrMany},
		{"first value below", api.Answer{Data: []int{-1, 0}}, api.ErrRange},
		{"last value above", api.Answer{Data: []int{0, 0, 1000}}, api.ErrRange},
		{"least value", api.Answer{Data: []int{math.MinInt}}, api.ErrRange},
		{"greatest value", api.Answer{Data: []int{math.MaxInt}}, api.ErrRange},
		{"an error and At", api.Answer{E: api.ErrText, At: 1}, api.ErrForm},
		{"an error and Data", api.Answer{E: api.ErrTorn, Data: []int{0}}, api.ErrForm},
		{"an error and both", api.Answer{E: api.ErrLate, At: 7, Data: many(8, 1)}, api.ErrForm},
		{"E ahead of too much", api.Answer{E: 10, Data: many(9, 0)}, api.ErrRange},
		{"At ahead of too much", api.Answer{At: 8, Data: many(9, 0)}, api.ErrRange},
		{"At ahead of an error's At", api.Answer{E: api.ErrKey, At: -1}, api.ErrRange},
		{"E ahead of its At", api.Answer{E: 10, At: 1}, api.ErrRange},
		{"too much ahead of a value", api.Answer{Data: many(9, -1)}, api.ErrMany},
		{"too much ahead of an error's Data", api.Answer{E: api.ErrKey, Data: many(9, 0)}, api.ErrMany},
		{"a value ahead of an error's Data", api.Answer{E: api.ErrKey, Data: []int{1000}}, api.ErrRange},
		{"a value ahead of an error's At", api.Answer{E: api.ErrKey, At: 1, Data: []int{-1}}, api.ErrRange},
	} {
		if e := desk.CheckAnswer(c.a); e != c.want {
			t.Errorf("%s: %d, want %d", c.name, e, c.want)
		}
	}
	for e := api.OK; e <= api.ErrTorn; e++ {
		if f := desk.CheckAnswer(api.Answer{E: e}); f != api.OK {
			t.Errorf("E %d: %d", e, f)
		}
	}
}

// P5.2: what the call itself says.

func TestErrorsOfTheCallAndWhichIsFirst(t *testing.T) {
	right := made("o12 h c3 f 570 01")
	reset, open := asked("reset 0"), api.Cmd{Kind: api.COpen, Z: 1000}
	for _, c := range append(callFaults(right), []callFault{
		{"hand below", right, -1, reset, api.ErrWho},
		{"hand above", right, api.MaxHands, reset, api.ErrWho},
		{"least hand", right, math.MinInt, reset, api.ErrWho},
		{"greatest hand", right, math.MaxInt, reset, api.ErrWho},
		{"hand above, registered nowhere", desk.New(), 3, asked("register 1"), api.ErrWho},
		{"hand ahead of no command", right, 3, api.Cmd{}, api.ErrWho},
		{"hand ahead of a value", right, -1, open, api.ErrWho},
		{"command ahead of who may not", right, 2, open, api.ErrRange},
	}...) {
		tryFault(t, c)
	}
	for _, w := range wrongs() {
		for _, who := range []int{-1, 0, 3} {
			for _, c := range []api.Cmd{reset, open, {}, asked("read 0 0 0"), asked("clear"), asked("register 1")} {
				tryFault(t, callFault{w.name, w.d, who, c, w.want})
			}
		}
	}
}

type callFault struct {
	name string
	d    api.Desk
	who  int
	c    api.Cmd
	want api.Errno
}

// callFaults: commands that are wrong, asked by a hand that there is.
func callFaults(d api.Desk) []callFault {
	return []callFault{
		{"no command", d, 0, api.Cmd{}, api.ErrForm},
		{"kind below", d, 0, api.Cmd{Kind: -1}, api.ErrForm},
		{"kind above", d, 0, api.Cmd{Kind: api.CClear + 1}, api.ErrForm},
		{"least kind", d, 0, api.Cmd{Kind: math.MinInt}, api.ErrForm},
		{"greatest kind", d, 0, api.Cmd{Kind: math.MaxInt}, api.ErrForm},
		{"what it doesn't have", d, 0, api.Cmd{Kind: api.COpen, N: 1}, api.ErrForm},
		{"Data that it doesn't have", d, 0, api.Cmd{Kind: api.CRead, Data: []int{0}}, api.ErrForm},
		{"nothing to append", d, 0, api.Cmd{Kind: api.CAppend}, api.ErrForm},
		{"nothing to write", d, 0, api.Cmd{Kind: api.CWrite, At: 2, Data: []int{}}, api.ErrForm},
		{"write at N", d, 0, api.Cmd{Kind: api.CWrite, N: 2, Data: []int{1}}, api.ErrForm},
		{"too much to append", d, 0, api.Cmd{Kind: api.CAppend, Data: many(9, 1)}, api.ErrMany},
		{"too much ahead of range", d, 0, api.Cmd{Kind: api.CWrite, Z: -1, Data: many(9, 1)}, api.ErrMany},
		{"Z below", d, 0, api.Cmd{Kind: api.CClose, Z: -1}, api.ErrRange},
		{"Z above", d, 0, api.Cmd{Kind: api.CFinish, Z: 1000}, api.ErrRange},
		{"least Z", d, 0, api.Cmd{Kind: api.CRead, Z: math.MinInt}, api.ErrRange},
		{"greatest At", d, 0, api.Cmd{Kind: api.CRead, At: math.MaxInt}, api.ErrRange},
		{"greatest N", d, 0, api.Cmd{Kind: api.CRead, N: math.MaxInt}, api.ErrRange},
		{"a key below", d, 0, api.Cmd{Kind: api.CRegister, N: -1}, api.ErrRange},
		{"a value", d, 0, api.Cmd{Kind: api.CAppend, Data: []int{1, 1000}}, api.ErrRange},
	}
}

// tryFault: with an error all else is zero.
func tryFault(t *testing.T, c callFault) {
	t.Helper()
	next, a, e := desk.Do(c.d, c.who, c.c)
	if e != c.want {
		t.Errorf("%s, %d asks %v: %d, want %d", c.name, c.who, c.c, e, c.want)
	}
	if told(next) != "" || !isZeroAnswer(a) {
		t.Errorf("%s, %d asks %v: an error, and %v, %v", c.name, c.who, c.c, next, a)
	}
}

// P5.2: what is done and answered.

// step: what a hand asks at a desk, the answer, and the desk that must come of it ("": it stays).
type step struct {
	from string
	who  int
	text string
	a    api.Answer
	to   string
}

func trySteps(t *testing.T, steps []step) {
	t.Helper()
	for _, s := range steps {
		to := s.to
		if to == "" {
			to = s.from
		}
		next, a, e := desk.Do(made(s.from), s.who, asked(s.text))
		if e != api.OK || !same(a, s.a) || told(next) != to {
			t.Errorf("%s: %d asks %s: %v %d, %s; want %v, %s", s.from, s.who, s.text, a, e, told(next), s.a, to)
		}
	}
}

func TestReservations(t *testing.T) {
	done := api.Answer{}
	trySteps(t, []step{
		{fresh, 0, "register 5", done, "e e e e 500 -"},
		{fresh, 1, "register 9", done, "e e e e 090 -"},
		{fresh, 2, "register 0", done, fresh},
		{"o1 e e c2 570 -", 2, "register 7", done, "o1 e e c2 577 -"},
		{"o1 e e c2 570 01", 0, "register 0", done, "o1 e e c2 070 -"},
		{"o1 e e c2 570 02", 1, "register 8", done, "o1 e e c2 580 02"},
		{"o1 e e c2 570 02", 1, "register 10", fail(api.ErrRange), ""},
		{"o1 e e c2 570 02", 1, "register 999", fail(api.ErrRange), ""},
		{"o1 e e c2 570 -", 0, "reserve 1", done, "o1 e e c2 570 01"},
		{"o1 e e c2 570 -", 1, "reserve 4", done, "o1 e e c2 570 14"},
		{"o1 e e c2 570 14", 1, "reserve 4", done, ""},
		{"o1 e e c2 570 14", 1, "reserve 3", fail(api.ErrKey), ""},
		{"o1 e e c2 570 14", 0, "reserve 4", fail(api.ErrKey), ""},
		{"o1 e e c2 570 -", 2, "reserve 1", fail(api.ErrKey), ""},
		{"o1 e e c2 570 -", 0, "reserve 0", fail(api.ErrRange), ""},
		{"o1 e e c2 570 -", 0, "reserve 5", fail(api.ErrRange), ""},
		{"o1 e e c2 570 -", 2, "reserve 5", fail(api.ErrRange), ""}, // ahead of ErrKey
		{"o1 e e c2 570 14", 1, "release", done, "o1 e e c2 570 -"},
		{"o1 e e c2 570 14", 0, "release", done, ""},
		{"o1 e e c2 570 -", 0, "release", done, ""},
		{"o1 e e c2 570 14", 2, "release", fail(api.ErrKey), ""},
		{"o1 e e c2 570 02", 1, "preempt 5", done, "o1 e e c2 070 12"},
		{"o1 e e c2 575 -", 1, "preempt 5", done, "o1 e e c2 070 -"},
		{"o1 e e c2 570 02", 1, "preempt 6", done, ""},
		{"o1 e e c2 570 02", 2, "preempt 5", fail(api.ErrKey), ""},
		{"o1 e e c2 570 02", 1, "preempt 0", fail(api.ErrRange), ""},
		{"o1 e e c2 570 02", 2, "preempt 10", fail(api.ErrRange), ""}, // ahead of ErrKey
		{"o1 e e c2 570 02", 1, "clear", done, "o1 e e c2 000 -"},
		{"o1 e e c2 570 -", 0, "clear", done, "o1 e e c2 000 -"},
		{"o1 e e c2 570 02", 2, "clear", fail(api.ErrKey), ""},
	})
}

func TestStatesOfZones(t *testing.T) {
	done := api.Answer{}
	trySteps(t, []step{
		{fresh, 0, "open 3", done, "e e e h 000 -"},
		{"o12 e e c3 570 -", 2, "open 0", done, "h12 e e c3 570 -"},
		{"o12 o4 e e 570 -", 1, "open 2", done, "c12 o4 h e 570 -"},
		{"h1 h2 e e 000 -", 1, "open 2", fail(api.ErrFull), ""},
		{"c1 c2 c3 e 000 -", 1, "open 3", fail(api.ErrFull), ""},
		{"f e e e 000 -", 1, "open 0", fail(api.ErrFull), ""},
		{fresh, 0, "open 4", fail(api.ErrWho), ""},
		{fresh, 0, "open 999", fail(api.ErrWho), ""},
		{"o12 e h c3 570 01", 0, "close 0", done, "c12 e h c3 570 01"},
		{"o12 e h c3 570 01", 0, "close 2", done, "o12 e e c3 570 01"},
		{"o12 e h c3 570 01", 0, "close 3", fail(api.ErrLate), ""},
		{"o12 e h c3 570 01", 0, "close 4", fail(api.ErrWho), ""},
		{"o12 e h c3 570 -", 2, "finish 0", done, "f12 e h c3 570 -"},
		{"o12 e h c3 570 -", 2, "finish 1", done, "o12 f h c3 570 -"},
		{"o12 e h c3 570 -", 2, "finish 4", fail(api.ErrWho), ""},
		{"o12 e h c3 570 -", 1, "reset 0", done, "e e h c3 570 -"},
		{"f12345678 e h c3 570 -", 1, "reset 0", done, "e e h c3 570 -"},
		{"o12 e h c3 570 -", 1, "reset 4", fail(api.ErrWho), ""},
	})
}

func TestAppendAndWrite(t *testing.T) {
	trySteps(t, []step{
		{fresh, 0, "append 0 5 6", wrote(0), "o56 e e e 000 -"},
		{"o56 e e e 000 -", 1, "append 0 7", wrote(2), "o567 e e e 000 -"},
		{"e e e h1 000 -", 2, "append 3 9 9", wrote(1), "e e e h199 000 -"},
		{"o1234567 e e e 000 -", 2, "append 0 8", wrote(7), "f12345678 e e e 000 -"},
		{"o1 o2 e e 570 13", 1, "append 3 4", wrote(0), "c1 o2 e o4 570 13"},
		{"o12345 e e e 000 -", 2, "append 0 6 7 8 9", fail(api.ErrFull), ""},
		{"f e e e 000 -", 2, "append 0 1", fail(api.ErrFull), ""},
		{"h1 h2 e e 000 -", 0, "append 2 1", fail(api.ErrFull), ""},
		{"c1 c2 c3 e 000 -", 0, "append 3 1", fail(api.ErrFull), ""},
		{fresh, 0, "append 4 1", fail(api.ErrWho), ""},
		{fresh, 0, "write 0 0 5 6", wrote(0), "o56 e e e 000 -"},
		{"o56 e e e 000 -", 1, "write 0 2 7", wrote(2), "o567 e e e 000 -"},
		{"o1 o2 e c3 570 13", 1, "write 3 1 4", wrote(1), "c1 o2 e o34 570 13"},
		{"o56 e e e 000 -", 1, "write 0 1 7", fail(api.ErrLate), ""},
		{"o56 e e e 000 -", 1, "write 0 3 7", fail(api.ErrLate), ""},
		{"o56 e e e 000 -", 1, "write 0 0 7", fail(api.ErrLate), ""},
		{"o56 e e e 000 -", 1, "write 0 999 7", fail(api.ErrLate), ""},
		{"o56 e e e 000 -", 1, "write 1 2 7", fail(api.ErrLate), ""}, // where another zone ends
		{"o1234567 e e e 000 -", 2, "write 0 7 8", wrote(7), "f12345678 e e e 000 -"},
		{"f12345678 e e e 000 -", 2, "write 0 8 9", fail(api.ErrFull), ""},
		{"f12 e e e 000 -", 2, "write 0 2 9", fail(api.ErrFull), ""},
		{"o12345 e e e 000 -", 2, "write 0 5 6 7 8 9", fail(api.ErrFull), ""},
		{"h1 h2 e e 000 -", 0, "write 2 0 1", fail(api.ErrFull), ""},
		// Where it must begin is told ahead of what the zone says of it.
		{"f12 e e e 000 -", 2, "write 0 1 9", fail(api.ErrLate), ""},
		{"o12345 e e e 000 -", 2, "write 0 4 6 7 8 9", fail(api.ErrLate), ""},
		{"h1 h2 e e 000 -", 0, "write 2 1 1", fail(api.ErrLate), ""},
		// No zone: nowhere is the wrong place.
		{fresh, 0, "write 4 0 1", fail(api.ErrWho), ""},
		{fresh, 0, "write 4 1 1", fail(api.ErrWho), ""},
		{fresh, 0, "write 999 999 1", fail(api.ErrWho), ""},
	})
}

func TestRead(t *testing.T) {
	trySteps(t, []step{
		{"o567 e e c3 000 -", 0, "read 0 0 3", got(5, 6, 7), ""},
		{"o567 e e c3 000 -", 1, "read 0 1 2", got(6, 7), ""},
		{"o567 e e c3 000 -", 2, "read 3 0 1", got(3), ""},
		{"o567 e e c3 000 -", 2, "read 0 1 0", got(), ""},
		{"o567 e e c3 000 -", 2, "read 0 3 0", got(), ""},
		{"f12345678 e e e 000 -", 0, "read 0 0 8", got(1, 2, 3, 4, 5, 6, 7, 8), ""},
		{"f12345678 e e e 000 -", 0, "read 0 8 0", got(), ""},
		{"o567 e e c3 000 -", 0, "read 0 0 4", fail(api.ErrLate), ""},
		{"o567 e e c3 000 -", 0, "read 0 4 0", fail(api.ErrLate), ""},
		{"o567 e e c3 000 -", 0, "read 1 0 1", fail(api.ErrLate), ""},
		{"o567 e e c3 000 -", 0, "read 0 0 9", fail(api.ErrRange), ""},
		{"o567 e e c3 000 -", 0, "read 0 9 0", fail(api.ErrRange), ""},
		{"o567 e e c3 000 -", 0, "read 0 1 8", fail(api.ErrRange), ""},
		{"o567 e e c3 000 -", 0, "read 0 999 999", fail(api.ErrRange), ""},
		{"o567 e e c3 000 -", 0, "read 4 0 1", fail(api.ErrWho), ""},
		{"o567 e e c3 000 -", 0, "read 999 999 999", fail(api.ErrWho), ""}, // ahead of ErrRange
	})
}

// What who may not is told ahead of all that a zone might say, and of whether there is one.
func TestWhoMayNotIsToldFirst(t *testing.T) {
	alone := "o567 h f c3 570 02" // hand 0 alone reads and writes
	for _, text := range []string{
		"open 1", "open 2", "open 4", "close 0", "close 3", "close 4", "finish 0", "finish 4", "reset 0", "reset 4",
		"append 0 1", "append 2 1", "append 4 1", "append 0 1 2 3 4 5 6", "write 0 3 1", "write 0 0 1", "write 2 0 1", "write 4 0 1",
		"read 0 0 1", "read 0 0 9", "read 1 0 1", "read 4 0 0", "read 999 999 999",
	} {
		trySteps(t, []step{{alone, 1, text, fail(api.ErrKey), ""}, {alone, 2, text, fail(api.ErrKey), ""}})
	}
	// Reservations aren't asked for that: who may do nothing else may still do these.
	trySteps(t, []step{
		{alone, 1, "release", api.Answer{}, ""},
		{alone, 2, "register 4", api.Answer{}, "o567 h f c3 574 02"},
		{alone, 1, "preempt 5", api.Answer{}, "o567 h f c3 070 12"},
		{alone, 1, "clear", api.Answer{}, "o567 h f c3 000 -"},
	})
}

// rights, by type: the holder's, those of another who is registered, of another who isn't; each to read, to write.
var rights = [5]string{
	0:               "rw rw rw",
	api.WriteAlone:  "rw r- r-",
	api.AccessAlone: "rw -- --",
	api.WriteAll:    "rw rw r-",
	api.AccessAll:   "rw rw --",
}

func mayDo(b api.Book, who, kind int) bool {
	at := 0
	if b.Holder != who {
		at = 3
	}
	if b.Holder != who && b.Keys[who] == 0 {
		at = 6
	}
	of := rights[b.Type][at : at+2]
	return kind == api.CRead && of[0] == 'r' || kind != api.CRead && of[1] == 'w'
}

// yards and books that belong together in any way.
var yards = []string{
	"e e e e", "o12 e e e", "o1 o2 e e", "o12 h c3 f", "h1 h2 e e", "h h2 c4 e", "c1 c2 c3 e", "o1 c2 c3 e", "o h3 f12 c5",
	"o1234567 e f12345678 e", "f f f f", "f12345678 c1234567 o123456 h1234567", "e f o e",
}

var books = []string{
	"000 -", "570 -", "555 -", "570 01", "570 02", "570 03", "570 04", "079 11", "079 12", "079 23", "079 24", "555 12", "555 04", "900 01",
}

func desks() []string {
	var out []string
	for _, zones := range yards {
		for _, b := range books {
			out = append(out, zones+" "+b)
		}
	}
	return out
}

// texts: commands of each kind, done here and refused there.
var texts = []string{
	"open 0", "open 1", "open 2", "open 3", "open 4", "close 0", "close 1", "close 2", "close 3", "close 999",
	"finish 0", "finish 1", "finish 2", "finish 3", "finish 4", "reset 0", "reset 1", "reset 2", "reset 3", "reset 4",
	"append 0 9", "append 1 9 8", "append 2 9 8 7", "append 3 1 2 3 4 5 6 7 8", "append 4 9", "append 2 1 2 3 4 5 6 7 8",
	"write 0 0 9", "write 0 1 9", "write 0 2 9", "write 1 0 9", "write 1 1 9 8", "write 2 0 9 8 7", "write 2 6 9 8", "write 3 0 1 2 3 4 5 6 7 8", "write 3 1 9", "write 2 8 9", "write 4 0 9",
	"read 0 0 1", "read 0 0 0", "read 1 0 2", "read 2 0 8", "read 2 1 2", "read 3 0 1", "read 3 7 1", "read 3 8 1", "read 0 9 0", "read 4 0 0",
	"register 0", "register 5", "register 9", "register 10", "reserve 0", "reserve 1", "reserve 2", "reserve 3", "reserve 4", "reserve 5",
	"release", "preempt 0", "preempt 5", "preempt 7", "preempt 9", "preempt 10", "clear",
}

// each goes through all desks, hands and commands.
func each(do func(from string, who int, text string)) {
	for _, from := range desks() {
		for who := range api.MaxHands {
			for _, text := range texts {
				do(from, who, text)
			}
		}
	}
}

// Each command by each hand: what the packages below say of it, if the book lets it.
func TestEachCommandByEachHand(t *testing.T) {
	var done, refused [api.CClear + 1]int
	each(func(from string, who int, text string) {
		c := asked(text)
		next, a, e := desk.Do(made(from), who, c)
		want, b := below(made(from), who, c)
		if e != api.OK || !same(a, b) || !desk.Same(next, want) {
			t.Errorf("%s: %d asks %s: %v %d, %s; want %v, %s", from, who, text, a, e, told(next), b, told(want))
		}
		if a.E == api.OK {
			done[c.Kind]++
		} else {
			refused[c.Kind]++
		}
	})
	for kind := api.COpen; kind <= api.CClear; kind++ {
		if done[kind] == 0 || refused[kind] == 0 {
			t.Errorf("kind %d was done %d times, refused %d times", kind, done[kind], refused[kind])
		}
	}
}

// below: the desk and the answer that the packages below make of a command.
func below(d api.Desk, who int, c api.Cmd) (api.Desk, api.Answer) {
	b, e := d.B, api.OK
	switch c.Kind {
	case api.CRegister:
		b, e = book.Register(b, who, c.N)
	case api.CReserve:
		b, e = book.Reserve(b, who, c.N)
	case api.CRelease:
		b, e = book.Release(b, who)
	case api.CPreempt:
		b, e = book.Preempt(b, who, c.N)
	case api.CClear:
		b, e = book.Clear(b, who)
	default:
		if !mayDo(b, who, c.Kind) {
			return d, fail(api.ErrKey)
		}
		return belowZones(d, c)
	}
	if e != api.OK {
		return d, fail(e)
	}
	return api.Desk{Zones: d.Zones, B: b}, api.Answer{}
}

func belowZones(d api.Desk, c api.Cmd) (api.Desk, api.Answer) {
	if c.Z >= api.MaxZones {
		return d, fail(api.ErrWho)
	}
	l, a := d.Zones, api.Answer{}
	has := len(l[c.Z].Data)
	switch c.Kind {
	case api.COpen:
		l, a.E = yard.Hold(l, c.Z)
	case api.CClose:
		l, a.E = yard.Close(l, c.Z)
	case api.CFinish:
		l, a.E = yard.Finish(l, c.Z)
	case api.CReset:
		l, a.E = yard.Reset(l, c.Z)
	case api.CAppend, api.CWrite:
		if c.Kind == api.CWrite && c.At != has {
			return d, fail(api.ErrLate)
		}
		l, a.At, a.E = yard.Write(l, c.Z, c.Data)
	case api.CRead:
		switch {
		case c.At+c.N > api.ZoneSize:
			return d, fail(api.ErrRange)
		case c.At+c.N > has:
			return d, fail(api.ErrLate)
		}
		a.Data = l[c.Z].Data[c.At : c.At+c.N]
	}
	if a.E != api.OK {
		return d, fail(a.E)
	}
	return api.Desk{Zones: l, B: d.B}, a
}

// Whatever is asked: desk and answer are right; refused: the answer is its error alone, and the desk is as it was.
func TestWhatIsAnsweredIsRight(t *testing.T) {
	each(func(from string, who int, text string) {
		next, a, e := desk.Do(made(from), who, asked(text))
		if e != api.OK || desk.Check(next) != api.OK || desk.CheckAnswer(a) != api.OK {
			t.Errorf("%s: %d asks %s: %v %d, %v", from, who, text, a, e, next)
		}
		if a.E != api.OK && (told(next) != from || a.At != 0 || len(a.Data) != 0) {
			t.Errorf("%s: %d asks %s: refused, %v, %s", from, who, text, a, told(next))
		}
	})
}

func TestEdgesOfValuesAreWrittenAndRead(t *testing.T) {
	d, a, e := desk.Do(desk.New(), 0, api.Cmd{Kind: api.CAppend, Z: 3, Data: []int{0, api.MaxValue}})
	if e != api.OK || !isZeroAnswer(a) {
		t.Fatalf("%v %d", a, e)
	}
	if _, a, e = desk.Do(d, 0, asked("read 3 0 2")); e != api.OK || !same(a, got(0, api.MaxValue)) {
		t.Errorf("%v %d", a, e)
	}
}

// P5.3

// Who may not write changes no zone; who asks for a reservation doesn't either, nor a read; and no command about zones changes the book.
func TestWhoMayNotWriteChangesNoZone(t *testing.T) {
	each(func(from string, who int, text string) {
		d, c := made(from), asked(text)
		next, a, _ := desk.Do(d, who, c)
		aboutZones := c.Kind < api.CRegister
		if aboutZones && !book.Same(next.B, d.B) {
			t.Errorf("%s: %d asks %s: the book is %v", from, who, text, next.B)
		}
		if mayDo(d.B, who, api.CAppend) && aboutZones && c.Kind != api.CRead {
			return
		}
		if !yard.Same(next.Zones, d.Zones) {
			t.Errorf("%s: %d may not, and asks %s: %s", from, who, text, told(next))
		}
		if aboutZones && c.Kind != api.CRead && a.E != api.ErrKey {
			t.Errorf("%s: %d may not, and asks %s: %v", from, who, text, a)
		}
	})
}

// What is answered where something was written is read there, by all who may.
func TestWhatWasWrittenIsReadWhereItWasAnswered(t *testing.T) {
	n := 0
	each(func(from string, who int, text string) {
		c := asked(text)
		if c.Kind != api.CAppend && c.Kind != api.CWrite {
			return
		}
		next, a, _ := desk.Do(made(from), who, c)
		if a.E != api.OK {
			return
		}
		n++
		for reader := range api.MaxHands {
			want := fail(api.ErrKey)
			if mayDo(next.B, reader, api.CRead) {
				want = got(c.Data...)
			}
			_, read, e := desk.Do(next, reader, api.Cmd{Kind: api.CRead, Z: c.Z, At: a.At, N: len(c.Data)})
			if e != api.OK || !same(read, want) {
				t.Errorf("%s: %d asks %s, %d reads at %d: %v %d", from, who, text, reader, a.At, read, e)
			}
		}
	})
	if n < 100 {
		t.Errorf("%d writes", n)
	}
}

// A long run of commands, one on the other: what was written stays where it was answered, until its zone is reset.
func TestLongRun(t *testing.T) {
	d, seed := desk.New(), uint32(7)
	next := func(n int) int {
		seed = seed*1664525 + 1013904223
		return int(seed>>16) % n
	}
	var written [api.MaxZones][]int
	var done [api.CClear + 1]int
	for range 30000 {
		who, c := next(api.MaxHands), anyCommand(next)
		to, a, e := desk.Do(d, who, c)
		if e != api.OK || desk.Check(to) != api.OK || desk.CheckAnswer(a) != api.OK {
			t.Fatalf("%v: %d asks %v: %v %d, %v", d, who, c, a, e, to)
		}
		if a.E != api.OK && !desk.Same(to, d) {
			t.Fatalf("%v: %d asks %v: refused, %v, %v", d, who, c, a, to)
		}
		if d = to; a.E != api.OK {
			continue
		}
		done[c.Kind]++
		switch c.Kind {
		case api.CAppend, api.CWrite:
			if a.At != len(written[c.Z]) {
				t.Fatalf("at %d, want %d", a.At, len(written[c.Z]))
			}
			written[c.Z] = append(written[c.Z], c.Data...)
		case api.CReset:
			written[c.Z] = nil
		case api.CRead:
			if !slices.Equal(a.Data, written[c.Z][c.At:c.At+c.N]) {
				t.Fatalf("%v: %v is read, want %v", c, a.Data, written[c.Z])
			}
		}
		for i, z := range d.Zones {
			if !slices.Equal(z.Data, written[i]) {
				t.Fatalf("%d asks %v: %v, want %v", who, c, d, written)
			}
		}
	}
	for kind := api.COpen; kind <= api.CClear; kind++ {
		if done[kind] < 50 {
			t.Errorf("kind %d was done %d times", kind, done[kind])
		}
	}
}

// anyCommand: a right command; of zones and keys some that there aren't.
func anyCommand(next func(n int) int) api.Cmd {
	c := api.Cmd{Kind: 1 + next(api.CClear)}
	if c.Kind < api.CRegister {
		c.Z = next(api.MaxZones + 1)
	}
	switch c.Kind {
	case api.CAppend, api.CWrite:
		for range 1 + next(3) {
			c.Data = append(c.Data, next(api.MaxValue+1))
		}
	case api.CRead:
		c.N = next(4)
	case api.CRegister, api.CPreempt:
		c.N = next(4)
	case api.CReserve:
		c.N = next(6)
	}
	if c.Kind == api.CWrite || c.Kind == api.CRead {
		c.At = next(5)
	}
	return c
}

// P2 of the document: what is handed in is only read, what is answered is new memory.

// lists: all lists of numbers of a desk and of an answer.
func lists(d api.Desk, a api.Answer) [][]int {
	out := [][]int{d.B.Keys, a.Data}
	for _, z := range d.Zones {
		out = append(out, z.Data)
	}
	return out
}

// roomy copies l; there is room to spare behind it.
func roomy(l []int) []int { return append(slices.Clone(l), 51, 52, 53)[:len(l)] }

// roomyDesk copies a desk: there is room to spare behind each list of it.
func roomyDesk(d api.Desk) api.Desk {
	next := api.Desk{B: d.B}
	next.B.Keys = roomy(d.B.Keys)
	for _, z := range d.Zones {
		next.Zones = append(next.Zones, api.Zone{State: z.State, Data: roomy(z.Data)})
	}
	spare := api.Zone{State: api.Held, Data: []int{61, 62}}
	next.Zones = append(next.Zones, spare, spare)[:len(d.Zones)]
	return next
}

// withRoom tells a desk, a command's data, and the room to spare behind all their lists.
func withRoom(d api.Desk, data []int) string {
	s := fmt.Sprint(d, d.Zones[:cap(d.Zones)], data[:cap(data)])
	for _, l := range lists(d, api.Answer{}) {
		s += fmt.Sprint(l[:cap(l)])
	}
	return s
}

func scribble(l []int) {
	l = l[:cap(l)]
	for i := range l {
		l[i] = -9
	}
}

// scribbleDesk writes over a desk, and the room to spare behind its lists.
func scribbleDesk(d api.Desk) {
	for _, l := range lists(d, api.Answer{}) {
		scribble(l)
	}
	zones := d.Zones[:cap(d.Zones)]
	for i := range zones {
		zones[i] = api.Zone{State: -9}
	}
}

func TestHandedInIsOnlyReadAndAnsweredIsNew(t *testing.T) {
	each(func(from string, who int, text string) {
		d, c := roomyDesk(made(from)), asked(text)
		c.Data = roomy(c.Data)
		before := withRoom(d, c.Data)
		next, a, _ := desk.Do(d, who, c)
		answered := fmt.Sprint(next, a)
		if after := withRoom(d, c.Data); after != before {
			t.Errorf("%d asks %s: %s, was %s", who, text, after, before)
		}
		again, b, _ := desk.Do(d, who, c)
		scribbleDesk(d)
		scribble(c.Data)
		if fmt.Sprint(next, a) != answered {
			t.Errorf("%s: %d asks %s: what was handed in is kept: %v %v, was %s", from, who, text, next, a, answered)
		}
		scribbleDesk(next)
		scribble(a.Data)
		if fmt.Sprint(again, b) != answered {
			t.Errorf("%s: %d asks %s: two answers share memory: %v %v, was %s", from, who, text, again, b, answered)
		}
	})
}

func TestListsOfAnAnswerShareNothing(t *testing.T) {
	each(func(from string, who int, text string) {
		next, a, _ := desk.Do(made(from), who, asked(text))
		all := lists(next, a)
		for i := range all {
			others := slices.Concat(all[:i], all[i+1:])
			before := fmt.Sprint(others)
			scribble(all[i])
			if after := fmt.Sprint(others); after != before {
				t.Fatalf("%s: %d asks %s: %s, was %s", from, who, text, after, before)
			}
		}
	})
}

// One list may be handed in for zones, keys and the data.
func TestHandedInMayShare(t *testing.T) {
	list := []int{5, 6, 7, 80, 81, 82}
	shared := api.Zone{State: api.Open, Data: list[:3]}
	d := api.Desk{Zones: []api.Zone{shared, shared, {}, {}}, B: api.Book{Keys: list[:3], Holder: -1}}
	next, a, e := desk.Do(d, 0, api.Cmd{Kind: api.CAppend, Z: 1, Data: list[1:3]})
	if e != api.OK || !same(a, wrote(3)) || told(next) != "o567 o56767 e e 567 -" {
		t.Fatalf("%v %d, %v", a, e, next)
	}
	next, _, _ = desk.Do(d, 0, asked("register 1"))
	if told(next) != "o567 o567 e e 167 -" || !slices.Equal(list, []int{5, 6, 7, 80, 81, 82}) {
		t.Errorf("%v, handed in: %v", next, list)
	}
}

func TestAllOthersOnlyRead(t *testing.T) {
	all := wrongs()
	for _, text := range desks() {
		all = append(all, wrong{text, made(text), api.OK})
	}
	for _, c := range all {
		d, data := roomyDesk(c.d), roomy([]int{1, 2})
		before := withRoom(d, data)
		desk.Check(d)
		desk.Same(d, d)
		desk.CheckAnswer(api.Answer{E: api.ErrKey, Data: data})
		desk.Do(d, 0, api.Cmd{Kind: api.CAppend, At: -1, Data: data})
		if after := withRoom(d, data); after != before {
			t.Errorf("%s: %s, was %s", c.name, after, before)
		}
	}
}
