package yard_test

import (
	"fmt"
	"math"
	"slices"
	"testing"

	"quayhand/api"
	"quayhand/yard"
	"quayhand/zone"
)

// run: the values from first to first+n-1.
func run(first, n int) []int {
	l := make([]int, n)
	for i := range l {
		l[i] = first + i
	}
	return l
}

func made(state, n int) api.Zone { return api.Zone{State: state, Data: run(1, n)} }

// read makes a yard of a text: a letter for each zone's state (e, o, h, c, f), and how many blocks it has.
func read(text string) []api.Zone {
	var l []api.Zone
	for i := 0; i+1 < len(text); i += 3 {
		state := slices.Index([]byte("eohcf"), text[i])
		l = append(l, api.Zone{State: state, Data: run(10*len(l)+1, int(text[i+1]-'0'))})
	}
	return l
}

// tell is read the other way round, so that a case shows what it asks.
func tell(l []api.Zone) string {
	text := ""
	for i, z := range l {
		if i > 0 {
			text += " "
		}
		text += fmt.Sprintf("%c%d", "eohcf"[z.State], len(z.Data))
	}
	return text
}

// call: one of the calls that change a yard.
type call struct {
	name string
	do   func(l []api.Zone, k int) ([]api.Zone, api.Errno)
}

// calls: all that change a yard; Write with each number of blocks, some of them wrong.
func calls(sizes ...int) []call {
	out := []call{{"Hold", yard.Hold}, {"Close", yard.Close}, {"Finish", yard.Finish}, {"Reset", yard.Reset}}
	for _, n := range sizes {
		out = append(out, call{fmt.Sprint("Write ", n), func(l []api.Zone, k int) ([]api.Zone, api.Errno) {
			next, _, e := yard.Write(l, k, run(900, n))
			return next, e
		}})
	}
	return out
}

// each goes through all yards whose zones have few, all but one or all blocks.
func each(do func(l []api.Zone)) {
	var shapes []api.Zone
	for state := api.Empty; state <= api.Full; state++ {
		for _, n := range []int{0, 1, api.ZoneSize - 1, api.ZoneSize} {
			if z := made(state, n); zone.Check(z) == api.OK {
				shapes = append(shapes, z)
			}
		}
	}
	l := make([]api.Zone, api.MaxZones)
	var fill func(i int)
	fill = func(i int) {
		if i == len(l) {
			if open, busy := tallied(l); open <= api.MaxOpen && busy <= api.MaxActive {
				do(l)
			}
			return
		}
		for _, l[i] = range shapes {
			fill(i + 1)
		}
	}
	fill(0)
}

// tallied: how many zones are open, how many open or closed.
func tallied(l []api.Zone) (open, busy int) {
	for _, z := range l {
		switch z.State {
		case api.Open, api.Held:
			open, busy = open+1, busy+1
		case api.Closed:
			busy++
		}
	}
	return open, busy
}

// P2.1

func TestNew(t *testing.T) {
	a, b := yard.New(), yard.New()
	if tell(a) != "e0 e0 e0 e0" || yard.Check(a) != api.OK {
		t.Errorf("%v", a)
	}
	a[0].State = api.Held
	if b[0].State != api.Empty || yard.New()[0].State != api.Empty {
		t.Error("two yards share memory")
	}
}

func TestCheckErrorsAndWhichIsFirst(t *testing.T) {
	right := made(api.Empty, 0)
	state, many, value, empty := made(5, 0), made(api.Full, 9), api.Zone{State: api.Open, Data: []int{-1}}, made(api.Empty, 1)
	open, held, closed := made(api.Open, 1), made(api.Held, 1), made(api.Closed, 1)
	for _, c := range []struct {
		name string
		l    []api.Zone
		want api.Errno
	}{
		{"zero", yard.New(), api.OK},
		{"nil", nil, api.ErrForm},
		{"empty", []api.Zone{}, api.ErrForm},
		{"too few", []api.Zone{right, right, right}, api.ErrForm},
		{"too many", []api.Zone{right, right, right, right, right}, api.ErrForm},
		{"first zone", []api.Zone{many, right, right, right}, api.ErrMany},
		{"last zone", []api.Zone{right, right, right, value}, api.ErrRange},
		{"last zone's state", []api.Zone{right, right, right, state}, api.ErrForm},
		{"the first wrong zone tells", []api.Zone{right, value, many, state}, api.ErrRange},
		{"and the other way round", []api.Zone{right, many, empty, value}, api.ErrMany},
		{"too few ahead of a wrong zone", []api.Zone{many, right, right}, api.ErrForm},
		{"too many ahead of a wrong zone", []api.Zone{many, right, right, right, right}, api.ErrForm},
		{"two are open", []api.Zone{open, open, right, right}, api.OK},
		{"two are held", []api.Zone{right, held, right, held}, api.OK},
		{"three are open", []api.Zone{open, open, right, open}, api.ErrFull},
		{"three are held", []api.Zone{right, held, held, held}, api.ErrFull},
		{"three are open or held", []api.Zone{open, held, right, open}, api.ErrFull},
		{"three are closed", []api.Zone{closed, closed, closed, right}, api.OK},
		{"four are closed", []api.Zone{closed, closed, closed, closed}, api.ErrFull},
		{"three are active", []api.Zone{open, held, closed, right}, api.OK},
		{"four are active", []api.Zone{open, held, closed, closed}, api.ErrFull},
		{"all are Full", []api.Zone{made(api.Full, 8), made(api.Full, 0), made(api.Full, 3), made(api.Full, 8)}, api.OK},
		{"a wrong zone ahead of too many open", []api.Zone{open, open, open, many}, api.ErrMany},
		{"a wrong zone ahead of too many active", []api.Zone{closed, closed, closed, made(api.Closed, 0)}, api.ErrForm},
	} {
		if e := yard.Check(c.l); e != c.want {
			t.Errorf("%s: %d, want %d", c.name, e, c.want)
		}
	}
}

func TestCheckOfEachYard(t *testing.T) {
	n := 0
	each(func(l []api.Zone) {
		n++
		if e := yard.Check(l); e != api.OK {
			t.Errorf("%s: %d", tell(l), e)
		}
	})
	if n == 0 {
		t.Error("no yards")
	}
}

func TestSame(t *testing.T) {
	one := api.Zone{State: 77, Data: []int{-5, 4000}}
	for _, c := range []struct {
		name string
		a, b []api.Zone
		want bool
	}{
		{"nil and empty", nil, []api.Zone{}, true},
		{"new", yard.New(), yard.New(), true},
		{"lists that are nil and empty", yard.New(), []api.Zone{{Data: []int{}}, {}, {}, {Data: []int{}}}, true},
		{"alike", read("o3 c2 f8 e0"), read("o3 c2 f8 e0"), true},
		{"alike, but wrong", []api.Zone{one, one}, []api.Zone{one, one}, true},
		{"nothing and something", nil, yard.New(), false},
		{"shorter", yard.New()[:3], yard.New(), false},
		{"first state", read("o3 c2 f8 e0"), read("h3 c2 f8 e0"), false},
		{"last state", read("o3 c2 f8 e0"), read("o3 c2 f8 o0"), false},
		{"last list", read("o3 c2 f8 f1"), read("o3 c2 f8 f2"), false},
		{"other order", []api.Zone{one, {}}, []api.Zone{{}, one}, false},
	} {
		if yard.Same(c.a, c.b) != c.want || yard.Same(c.b, c.a) != c.want {
			t.Errorf("%s: want %v", c.name, c.want)
		}
	}
}

// What all calls that change a yard say first.
func TestErrorsOfAllCallsAndWhichIsFirst(t *testing.T) {
	wrong := read("e0 e0 e0 o0")
	wrong[3].Data = []int{1000}
	for _, c := range []struct {
		name string
		l    []api.Zone
		k    int
		want api.Errno
	}{
		{"nil", nil, 0, api.ErrForm},
		{"too few", yard.New()[:3], 0, api.ErrForm},
		{"a wrong zone that isn't k", wrong, 0, api.ErrRange},
		{"too many are open", read("o0 o0 o0 e0"), 0, api.ErrFull},
		{"too many are active", read("o1 h1 c1 c1"), 0, api.ErrFull},
		{"below", read("o1 f0 e0 e0"), -1, api.ErrWho},
		{"above", read("o1 f0 e0 e0"), api.MaxZones, api.ErrWho},
		{"least", yard.New(), math.MinInt, api.ErrWho},
		{"greatest", yard.New(), math.MaxInt, api.ErrWho},
		{"Check ahead of k", wrong, -1, api.ErrRange},
		{"ErrFull of Check ahead of k", read("c1 c1 c1 c1"), 4, api.ErrFull},
		{"no zones ahead of k", nil, -1, api.ErrForm},
	} {
		for _, a := range calls(1, 0, 9) { // what is wrong with data is told later
			if next, e := a.do(c.l, c.k); e != c.want || len(next) != 0 {
				t.Errorf("%s, %s: %v %d, want %d", c.name, a.name, next, e, c.want)
			}
		}
	}
}

// P2.2

// step: a call on zone k of a yard, and the yard that must come of it.
type step struct {
	from string
	k    int
	to   string // "": there is an error
	e    api.Errno
}

// tryStep holds a call's answer against a step; of each zone's blocks, those that it had stay.
func tryStep(t *testing.T, a call, s step) {
	t.Helper()
	l := read(s.from)
	next, e := a.do(l, s.k)
	if e != s.e || tell(next) != s.to {
		t.Errorf("%s %d of %s: %s %d, want %s %d", a.name, s.k, s.from, tell(next), e, s.to, s.e)
		return
	}
	if e != api.OK || a.name == "Reset" {
		return
	}
	for i := range l {
		if !slices.Equal(next[i].Data[:len(l[i].Data)], l[i].Data) {
			t.Errorf("%s %d of %s: zone %d has %v, had %v", a.name, s.k, s.from, i, next[i].Data, l[i].Data)
		}
	}
}

// rooms: zone k from each state, with room and without; where there is room, k's state is told as '?'.
var rooms = []step{
	{"e0 e0 e0 e0", 0, "? e0 e0 e0", api.OK},
	{"e0 e0 e0 e0", 3, "e0 e0 e0 ?", api.OK},
	{"o2 e0 e0 e0", 1, "o2 ? e0 e0", api.OK},
	{"h2 e0 e0 e0", 1, "h2 ? e0 e0", api.OK},
	// Open and Held: there is room whatever the others are.
	{"o2 e0 e0 e0", 0, "? e0 e0 e0", api.OK},
	{"o0 e0 e0 e0", 0, "? e0 e0 e0", api.OK},
	{"o2 o3 c1 e0", 0, "? o3 c1 e0", api.OK},
	{"o2 o3 c1 e0", 1, "o2 ? c1 e0", api.OK},
	{"h2 h3 c1 f8", 0, "? h3 c1 f8", api.OK},
	{"h0 h3 c1 f8", 0, "? h3 c1 f8", api.OK},
	{"o2 h3 c1 f8", 1, "o2 ? c1 f8", api.OK},
	// Full: there is none.
	{"f8 e0 e0 e0", 0, "", api.ErrFull},
	{"f0 e0 e0 e0", 0, "", api.ErrFull},
	{"f3 o1 o1 c1", 0, "", api.ErrFull},
	// Empty: as many as may be are active.
	{"c1 c2 c3 e0", 3, "", api.ErrFull},
	{"o1 c2 c3 e0", 3, "", api.ErrFull},
	{"o1 o2 c3 e0", 3, "", api.ErrFull},
	{"h1 e0 c3 o4", 1, "", api.ErrFull},
	{"o0 o0 e0 c1", 2, "", api.ErrFull},
	// Empty: fewer are; the first that is Open is shut.
	{"c1 c2 e0 e0", 2, "c1 c2 ? e0", api.OK},
	{"o1 c2 e0 e0", 2, "o1 c2 ? e0", api.OK},
	{"o1 o2 e0 e0", 2, "c1 o2 ? e0", api.OK},
	{"e0 f0 o1 o2", 0, "? f0 c1 o2", api.OK},
	{"o0 o2 e0 f1", 2, "e0 o2 ? f1", api.OK},
	{"h1 o2 e0 e0", 3, "h1 c2 e0 ?", api.OK},
	{"o1 e0 e0 h2", 1, "c1 ? e0 h2", api.OK},
	{"h1 e0 e0 o0", 1, "h1 ? e0 e0", api.OK},
	{"h1 h2 e0 e0", 2, "", api.ErrFull},
	{"e0 h0 f8 h0", 0, "", api.ErrFull},
	// Closed: it is active already.
	{"c1 e0 e0 e0", 0, "? e0 e0 e0", api.OK},
	{"c1 c2 c3 e0", 1, "c1 ? c3 e0", api.OK},
	{"c1 o2 c3 e0", 2, "c1 o2 ? e0", api.OK},
	{"c1 o2 o3 e0", 0, "? c2 o3 e0", api.OK},
	{"o2 o3 f0 c1", 3, "c2 o3 f0 ?", api.OK},
	{"o0 o3 c1 f8", 2, "e0 o3 ? f8", api.OK},
	{"h2 o3 c1 e0", 2, "h2 c3 ? e0", api.OK},
	{"h2 h3 c1 e0", 2, "", api.ErrFull},
	{"c7 f1 h0 h0", 0, "", api.ErrFull},
}

// put tells zone k of a yard, where a step left it open.
func put(s step, zone string) step {
	for i := range s.to {
		if s.to[i] == '?' {
			s.to = s.to[:i] + zone + s.to[i+1:]
			break
		}
	}
	return s
}

func TestHold(t *testing.T) {
	for _, s := range rooms {
		had := s.from[3*s.k+1 : 3*s.k+2]
		tryStep(t, call{"Hold", yard.Hold}, put(s, "h"+had))
	}
}

func TestClose(t *testing.T) {
	for _, s := range []step{
		{"o1 e0 e0 e0", 0, "c1 e0 e0 e0", api.OK},
		{"o0 e0 e0 e0", 0, "e0 e0 e0 e0", api.OK},
		{"h7 e0 e0 e0", 0, "c7 e0 e0 e0", api.OK},
		{"h0 e0 e0 e0", 0, "e0 e0 e0 e0", api.OK},
		{"o1 c2 e0 o3", 3, "o1 c2 e0 c3", api.OK},
		{"h1 f2 c4 h0", 3, "h1 f2 c4 e0", api.OK},
		{"e0 o1 h1 c1", 0, "", api.ErrLate},
		{"c1 o1 h1 e0", 0, "", api.ErrLate},
		{"f8 o1 h1 e0", 0, "", api.ErrLate},
		{"f0 o1 h1 e0", 0, "", api.ErrLate},
	} {
		tryStep(t, call{"Close", yard.Close}, s)
	}
}

func TestFinish(t *testing.T) {
	for _, s := range []step{
		{"e0 o1 h2 c3", 0, "f0 o1 h2 c3", api.OK},
		{"e0 o1 h2 c3", 1, "e0 f1 h2 c3", api.OK},
		{"e0 o1 h2 c3", 2, "e0 o1 f2 c3", api.OK},
		{"e0 o1 h2 c3", 3, "e0 o1 h2 f3", api.OK},
		{"f8 h1 h2 c3", 0, "f8 h1 h2 c3", api.OK},
		{"f0 h1 h2 c3", 0, "f0 h1 h2 c3", api.OK},
		{"f0 f1 f2 o0", 3, "f0 f1 f2 f0", api.OK},
	} {
		tryStep(t, call{"Finish", yard.Finish}, s)
	}
}

func TestReset(t *testing.T) {
	for _, s := range []step{
		{"e0 o1 h2 c3", 0, "e0 o1 h2 c3", api.OK},
		{"e0 o1 h2 c3", 1, "e0 e0 h2 c3", api.OK},
		{"e0 o1 h2 c3", 2, "e0 o1 e0 c3", api.OK},
		{"e0 o1 h2 c3", 3, "e0 o1 h2 e0", api.OK},
		{"f8 h1 h2 c3", 0, "e0 h1 h2 c3", api.OK},
		{"f0 h1 h2 c3", 0, "e0 h1 h2 c3", api.OK},
	} {
		tryStep(t, call{"Reset", yard.Reset}, s)
	}
}

// P2.3

func TestWrite(t *testing.T) {
	one := calls(1)[4]
	for _, s := range rooms {
		state, had := s.from[3*s.k], s.from[3*s.k+1]
		after := string([]byte{'o', had + 1})
		if state == 'h' {
			after = string([]byte{'h', had + 1})
		}
		if had+1 == '0'+api.ZoneSize {
			after = string([]byte{'f', had + 1})
		}
		tryStep(t, one, put(s, after))
	}
}

// A write that fills a zone needs room as the zone was.
func TestWriteThatFills(t *testing.T) {
	eight, six := calls(8)[4], calls(6)[4]
	for _, s := range []step{
		{"e0 e0 e0 e0", 1, "e0 f8 e0 e0", api.OK},
		{"o0 e0 e0 e0", 0, "f8 e0 e0 e0", api.OK},
		{"o1 o2 e0 e0", 2, "c1 o2 f8 e0", api.OK},
		{"o0 h2 e0 e0", 2, "e0 h2 f8 e0", api.OK},
		{"h1 h2 e0 e0", 2, "", api.ErrFull},
		{"o1 c2 c3 e0", 3, "", api.ErrFull},
		{"h0 h2 c1 e0", 0, "f8 h2 c1 e0", api.OK},
	} {
		tryStep(t, eight, s)
	}
	for _, s := range []step{
		{"o1 o2 c2 e0", 2, "c1 o2 f8 e0", api.OK},
		{"o1 o2 c2 e0", 1, "o1 f8 c2 e0", api.OK},
		{"h1 h2 c2 e0", 2, "", api.ErrFull},
	} {
		tryStep(t, six, s)
	}
}

func TestWriteSaysWhere(t *testing.T) {
	l := yard.New()
	for want := range api.ZoneSize {
		next, at, e := yard.Write(l, 2, []int{100 + want})
		if e != api.OK || at != want || !slices.Equal(next[2].Data, run(100, want+1)) {
			t.Fatalf("%v: %v at %d, %d, want at %d", l, next, at, e, want)
		}
		l = next
	}
	if next, at, e := yard.Write(l, 2, []int{1}); len(next) != 0 || at != 0 || e != api.ErrFull {
		t.Errorf("%v at %d, %d", next, at, e)
	}
}

func TestWriteErrorsAndWhichIsFirst(t *testing.T) {
	for _, c := range []struct {
		name, from string
		k          int
		data       []int
		want       api.Errno
	}{
		{"edges of values", "e0 e0 e0 e0", 0, []int{0, api.MaxValue}, api.OK},
		{"nil", "o1 e0 e0 e0", 0, nil, api.ErrMany},
		{"nothing", "o1 e0 e0 e0", 0, []int{}, api.ErrMany},
		{"too many", "o1 e0 e0 e0", 0, run(1, 9), api.ErrMany},
		{"value below", "o1 e0 e0 e0", 0, []int{1, -1}, api.ErrRange},
		{"value above", "o1 e0 e0 e0", 0, []int{1000}, api.ErrRange},
		{"not all of it has room", "h3 e0 e0 e0", 0, run(1, 6), api.ErrFull},
		{"Full", "f3 e0 e0 e0", 0, run(1, 1), api.ErrFull},
		{"k ahead of data", "o1 e0 e0 e0", 4, nil, api.ErrWho},
		{"nothing ahead of Full", "f3 e0 e0 e0", 0, nil, api.ErrMany},
		{"nothing ahead of too many active", "c1 c1 c1 e0", 3, nil, api.ErrMany},
		{"value ahead of too many active", "c1 c1 c1 e0", 3, []int{-1}, api.ErrRange},
		{"value ahead of too many held", "h1 h1 e0 e0", 3, []int{1000}, api.ErrRange},
		{"too many ahead of too many held", "h1 h1 e0 e0", 3, run(1, 9), api.ErrMany},
	} {
		next, at, e := yard.Write(read(c.from), c.k, c.data)
		if e != c.want {
			t.Errorf("%s: %d, want %d", c.name, e, c.want)
		}
		if e != api.OK && (len(next) != 0 || at != 0) {
			t.Errorf("%s: an error, and %v at %d", c.name, next, at)
		}
	}
}

// P2.4

// Whatever is done to whatever yard: never more are open, or active, than may be; other zones keep what is theirs.
func TestNeverMoreThanMayBe(t *testing.T) {
	each(func(l []api.Zone) {
		before := tell(l)
		for _, a := range calls(1, 7, 8) {
			for k := range l {
				next, e := a.do(l, k)
				if e != api.OK {
					continue
				}
				open, busy := tallied(next)
				if yard.Check(next) != api.OK || open > api.MaxOpen || busy > api.MaxActive {
					t.Errorf("%s %d of %s: %s", a.name, k, before, tell(next))
				}
				keepTheirs(t, a, l, next, k)
			}
		}
		if tell(l) != before {
			t.Fatalf("%s was %s", tell(l), before)
		}
	})
}

// keepTheirs: no zone but k has changed, but for one Open one that was shut; k has what it had, but for Reset.
func keepTheirs(t *testing.T, a call, l, next []api.Zone, k int) {
	t.Helper()
	shut := 0
	for i := range l {
		had := len(l[i].Data)
		if (a.name != "Reset" || i != k) && (len(next[i].Data) < had || !slices.Equal(next[i].Data[:had], l[i].Data)) {
			t.Errorf("%s %d of %s: zone %d has %v, had %v", a.name, k, tell(l), i, next[i].Data, l[i].Data)
		}
		if i == k || zone.Same(l[i], next[i]) {
			continue
		}
		shut++
		want := api.Zone{State: api.Closed, Data: l[i].Data}
		if had == 0 {
			want.State = api.Empty
		}
		if l[i].State != api.Open || !zone.Same(next[i], want) || a.name == "Close" || a.name == "Finish" || a.name == "Reset" {
			t.Errorf("%s %d of %s: %s", a.name, k, tell(l), tell(next))
		}
	}
	if open, _ := tallied(l); shut > 1 || shut == 1 && open < api.MaxOpen {
		t.Errorf("%s %d of %s: %d shut: %s", a.name, k, tell(l), shut, tell(next))
	}
}

// A long run of calls, one on the other: what is written is read until Reset.
func TestWhatIsWrittenStaysUntilReset(t *testing.T) {
	l, seed := yard.New(), uint32(1)
	var written [api.MaxZones][]int
	next := func(n uint32) int {
		seed = seed*1664525 + 1013904223
		return int(seed >> 16 % n)
	}
	done := map[string]int{}
	for range 20000 {
		a, k, n := next(12), next(api.MaxZones), 1+next(3)
		var to []api.Zone
		var e api.Errno
		what := "Write"
		switch a {
		case 0:
			what = "Reset"
			to, e = yard.Reset(l, k)
			written[k] = nil
		case 1:
			what = "Finish"
			to, e = yard.Finish(l, k)
		case 2, 3:
			what = "Close"
			to, e = yard.Close(l, k)
		case 4, 5:
			what = "Hold"
			to, e = yard.Hold(l, k)
		default:
			data, at := run(next(900), n), 0
			to, at, e = yard.Write(l, k, data)
			if e == api.OK && at != len(written[k]) {
				t.Fatalf("at %d, want %d", at, len(written[k]))
			}
			if e == api.OK {
				written[k] = append(written[k], data...)
			}
		}
		if e != api.OK {
			continue
		}
		done[what]++
		l = to
		for i := range l {
			if yard.Check(l) != api.OK || !slices.Equal(l[i].Data, written[i]) {
				t.Fatalf("%s: %v, want %v", what, l, written)
			}
		}
	}
	for _, what := range []string{"Hold", "Close", "Finish", "Reset", "Write"} {
		if done[what] < 100 {
			t.Errorf("%s was done %d times", what, done[what])
		}
	}
}

// P2 of the document: what is handed in is only read, what is answered is new memory.

// roomy copies a yard: each list of it has room to spare, which is told by its second answer, the list of zones too.
func roomy(l []api.Zone) (zones []api.Zone, lists [][]int) {
	zones = make([]api.Zone, len(l)+2)
	for i := range zones {
		room := run(500, api.ZoneSize+2)
		lists = append(lists, room)
		zones[i] = api.Zone{State: api.Held, Data: room}
		if i < len(l) {
			copy(room, l[i].Data)
			zones[i] = api.Zone{State: l[i].State, Data: room[:len(l[i].Data)]}
		}
	}
	return zones, lists
}

var memories = []string{"o1 o2 e0 e0", "o0 o2 c3 f8", "h1 o2 c3 e0", "e0 f4 h0 c7", "f0 e0 e0 h5"}

func TestHandedInIsOnlyReadAndAnsweredIsNew(t *testing.T) {
	for _, from := range memories {
		for _, a := range calls(1, 3, 8, 9) {
			for k := range api.MaxZones {
				zones, lists := roomy(read(from))
				before := fmt.Sprint(zones, lists)
				next, _ := a.do(zones[:api.MaxZones], k)
				if after := fmt.Sprint(zones, lists); after != before {
					t.Errorf("%s %d of %s: %s, was %s", a.name, k, from, after, before)
				}
				scribble(next)
				if after := fmt.Sprint(zones, lists); after != before {
					t.Errorf("%s %d of %s shares memory: %s, was %s", a.name, k, from, after, before)
				}
			}
		}
	}
}

func TestListsOfAnAnswerShareNothing(t *testing.T) {
	for _, from := range memories {
		for _, a := range calls(1, 3, 8) {
			for k := range api.MaxZones {
				next, e := a.do(read(from), k)
				if e != api.OK {
					continue
				}
				for i := range next {
					before := fmt.Sprint(next[:i], next[i+1:])
					scribbleList(next[i].Data)
					if after := fmt.Sprint(next[:i], next[i+1:]); after != before {
						t.Errorf("%s %d of %s: %s, was %s", a.name, k, from, after, before)
					}
				}
			}
		}
	}
}

// One list may be handed in for several zones, or for a zone and the data.
func TestHandedInMayShare(t *testing.T) {
	list := []int{5, 6, 7, 80, 81, 82, 83, 84, 85}
	shared := api.Zone{State: api.Open, Data: list[:3]}
	l := []api.Zone{shared, shared, {}, {}}
	next, at, e := yard.Write(l, 1, list[1:3])
	if e != api.OK || at != 3 || fmt.Sprint(next) != "[{1 [5 6 7]} {1 [5 6 7 6 7]} {0 []} {0 []}]" {
		t.Fatalf("%v at %d, %d", next, at, e)
	}
	scribbleList(next[0].Data)
	if fmt.Sprint(next[1].Data, list) != "[5 6 7 6 7] [5 6 7 80 81 82 83 84 85]" {
		t.Errorf("%v, handed in: %v", next[1].Data, list)
	}
}

func TestDataIsOnlyReadAndNotKept(t *testing.T) {
	room := run(1, 6)
	next, _, e := yard.Write(read("o1 e0 e0 e0"), 0, room[:3])
	if e != api.OK || !slices.Equal(room, run(1, 6)) {
		t.Fatalf("%d, handed in: %v", e, room)
	}
	scribbleList(room)
	if !slices.Equal(next[0].Data, []int{1, 1, 2, 3}) {
		t.Errorf("%v", next[0].Data)
	}
}

func TestNilAndEmptyListsAreAlike(t *testing.T) {
	for _, a := range calls(1) {
		none := make([]api.Zone, api.MaxZones)
		for i := range none {
			none[i].Data = []int{}
		}
		x, e := a.do(yard.New(), 1)
		y, f := a.do(none, 1)
		if e != f || !yard.Same(x, y) {
			t.Errorf("%s: %v %d, %v %d", a.name, x, e, y, f)
		}
	}
}

// scribble writes over all zones of l, what is written in them, and the room to spare behind it all.
func scribble(l []api.Zone) {
	l = l[:cap(l)]
	for i := range l {
		scribbleList(l[i].Data)
		l[i] = api.Zone{State: -9}
	}
}

func scribbleList(l []int) {
	l = l[:cap(l)]
	for i := range l {
		l[i] = -9
	}
}
