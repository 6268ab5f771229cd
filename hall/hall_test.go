package hall_test

import (
	"fmt"
	"math"
	"slices"
	"testing"

	"quayhand/api"
	"quayhand/cmd"
	"quayhand/desk"
	"quayhand/hall"
	"quayhand/note"
)

// rec: the record of a text; it must be a right one.
func rec(text string) api.Rec {
	r, e := note.Parse(text)
	if e != api.OK {
		panic(fmt.Sprint(text, ": ", e))
	}
	return r
}

func recs(texts ...string) []api.Rec {
	var l []api.Rec
	for _, s := range texts {
		l = append(l, rec(s))
	}
	return l
}

// asked: the command of a text; it must be a right one.
func asked(text string) api.Cmd {
	c, e := cmd.Parse(text)
	if e != api.OK {
		panic(fmt.Sprint(text, ": ", e))
	}
	return c
}

func wrote(at int) api.Answer     { return api.Answer{At: at} }
func got(data ...int) api.Answer  { return api.Answer{Data: data} }
func fail(e api.Errno) api.Answer { return api.Answer{E: e} }
func many(n, v int) []int         { return slices.Repeat([]int{v}, n) }

func same(a, b api.Answer) bool {
	return a.E == b.E && a.At == b.At && slices.Equal(a.Data, b.Data)
}

// alike: are all fields of two halls alike? (Told without the package that is tested.)
func alike(a, b api.Hall) bool {
	return desk.Same(a.D, b.D) && slices.EqualFunc(a.Last, b.Last, func(x, y api.Last) bool {
		return x.Seq == y.Seq && same(x.A, y.A)
	})
}

func isZero(h api.Hall) bool { return alike(h, api.Hall{}) }

// model: a desk, and all that each hand was answered.
type model struct {
	d   api.Desk
	got [api.MaxHands][]api.Answer
}

func newModel() model { return model{d: desk.New()} }

// done: m, once hand who has asked c as its next command.
func (m model) done(who int, c api.Cmd) model {
	d, a, e := desk.Do(m.d, who, c)
	if e != api.OK {
		panic(fmt.Sprint(who, " asks ", c, ": ", e))
	}
	m.d = d
	m.got[who] = append(slices.Clone(m.got[who]), a)
	return m
}

func (m model) hall() api.Hall {
	h := api.Hall{D: m.d}
	for _, l := range m.got {
		last := api.Last{Seq: len(l)}
		if len(l) > 0 {
			last.A = l[len(l)-1]
		}
		h.Last = append(h.Last, last)
	}
	return h
}

// after: the hall that comes of these, each of which must be the next one of its hand.
func after(l []api.Rec) api.Hall {
	m := newModel()
	for _, r := range l {
		if m = m.done(r.Who, r.C); r.Seq != len(m.got[r.Who]) {
			panic(fmt.Sprint(r))
		}
	}
	return m.hall()
}

// story: commands of all hands, each kind of them done and refused.
func story() []api.Rec {
	return recs(
		"0 1: append 1 5 6", "1 1: append 1 7", "0 2: write 1 3 8 9", "1 2: write 1 0 1", "2 1: read 1 1 3",
		"2 2: read 1 4 2", "2 3: open 2", "2 4: open 9", "0 3: append 3 1 2 3 4 5 6 7 8", "0 4: append 3 9",
		"1 3: close 3", "1 4: close 2", "1 5: finish 9", "1 6: finish 2", "2 5: open 2",
		"2 6: reset 2", "0 5: reset 4", "0 6: reserve 1", "0 7: register 5", "0 8: reserve 1",
		"1 7: append 1 4", "1 8: read 1 0 2", "1 9: register 10", "1 10: release", "1 11: register 7",
		"1 12: preempt 5", "2 7: preempt 7", "0 9: append 1 4", "1 13: append 1 4", "0 10: clear",
		"1 14: release", "2 8: register 9", "2 9: clear", "0 11: append 0 999", "2 10: read 0 0 1",
	)
}

// halls: some that are right, however they came to be.
func halls() []api.Hall {
	l := story()
	out := []api.Hall{hall.New(), after(l)}
	for _, n := range []int{1, 5, 9, 20, 25, 26} {
		out = append(out, after(l[:n]))
	}
	odd := after(l[:20])
	odd.Last = []api.Last{{Seq: api.MaxSeq, A: api.Answer{At: 7, Data: many(8, api.MaxValue)}}, {}, {Seq: 1, A: fail(api.ErrTorn)}}
	return append(out, odd)
}

func TestTheStoryHasEachKindDoneAndRefused(t *testing.T) {
	m := newModel()
	var done, refused [api.CClear + 1]int
	for _, r := range story() {
		m = m.done(r.Who, r.C)
		if l := m.got[r.Who]; l[len(l)-1].E == api.OK {
			done[r.C.Kind]++
		} else {
			refused[r.C.Kind]++
		}
	}
	for kind := api.COpen; kind <= api.CClear; kind++ {
		if done[kind] == 0 || refused[kind] == 0 {
			t.Errorf("kind %d was done %d times, refused %d times", kind, done[kind], refused[kind])
		}
	}
}

// P8.1

func TestNew(t *testing.T) {
	want := api.Hall{D: desk.New(), Last: make([]api.Last, 3)}
	a, b := hall.New(), hall.New()
	if !alike(a, want) || hall.Check(a) != api.OK {
		t.Errorf("%v", a)
	}
	a.D.Zones[0].State, a.D.B.Keys[0], a.Last[0].Seq = api.Held, 7, 9
	if !alike(b, want) || !alike(hall.New(), want) {
		t.Error("two halls share memory")
	}
}

// fault: what is done to a hall that is right, and what is wrong with it then; OK: nothing.
type fault struct {
	name  string
	spoil func(h *api.Hall)
	want  api.Errno
}

// last lets this be Last of who.
func last(who, seq int, a api.Answer) func(h *api.Hall) {
	return func(h *api.Hall) { h.Last[who] = api.Last{Seq: seq, A: a} }
}

func both(a, b func(h *api.Hall)) func(h *api.Hall) {
	return func(h *api.Hall) { a(h); b(h) }
}

// lasts lets there be n Last, of this number.
func lasts(n, seq int) func(h *api.Hall) {
	return func(h *api.Hall) { h.Last = slices.Repeat([]api.Last{{Seq: seq}}, n) }
}

// zone lets this be zone k.
func zone(k, state int, data ...int) func(h *api.Hall) {
	return func(h *api.Hall) { h.D.Zones[k] = api.Zone{State: state, Data: data} }
}

func noZones(h *api.Hall) { h.D.Zones = nil }
func noKeys(h *api.Hall)  { h.D.B.Keys = nil }

// openAll: more zones are open than may be.
func openAll(h *api.Hall) { h.D.Zones = slices.Repeat([]api.Zone{{State: api.Open}}, api.MaxZones) }

// rightOnes: what may be done to a right hall without harm.
func rightOnes() []fault {
	out := []fault{
		{"nothing", func(*api.Hall) {}, api.OK},
		{"nobody has asked", lasts(3, 0), api.OK},
		{"all have asked all", lasts(3, 40), api.OK},
		{"a zone with a list that is empty, not nil", func(h *api.Hall) { h.D.Zones[2] = api.Zone{Data: []int{}} }, api.OK},
		{"no number, and Data that is empty, not nil", last(1, 0, api.Answer{Data: []int{}}), api.OK},
		{"a number, and an answer that is zero", last(1, 1, api.Answer{}), api.OK},
		{"a number, and a whole answer", last(2, 40, api.Answer{At: 7, Data: many(8, 999)}), api.OK},
		{"an error and empty Data", last(0, 1, api.Answer{E: api.ErrKey, Data: []int{}}), api.OK},
	}
	for e := api.OK; e <= api.ErrTorn; e++ {
		out = append(out, fault{fmt.Sprint("E ", int(e)), last(1, 3, fail(e)), api.OK})
	}
	return out
}

// deskFaults: what is wrong with the desk comes first of all.
func deskFaults() []fault {
	return []fault{
		{"no zones", noZones, api.ErrForm},
		{"too many zones", func(h *api.Hall) { h.D.Zones = make([]api.Zone, 5) }, api.ErrForm},
		{"a state", zone(2, 5), api.ErrForm},
		{"too many blocks", zone(0, api.Full, many(9, 1)...), api.ErrMany},
		{"a block", zone(3, api.Full, 1000), api.ErrRange},
		{"Empty, but written", zone(3, api.Empty, 1), api.ErrForm},
		{"too many are open", openAll, api.ErrFull},
		{"no keys", noKeys, api.ErrForm},
		{"a key", func(h *api.Hall) { h.D.B.Keys[1] = 10 }, api.ErrRange},
		{"a holder", func(h *api.Hall) { h.D.B.Holder = 3 }, api.ErrRange},
		{"a holder by no type", func(h *api.Hall) { h.D.B.Holder, h.D.B.Type = 0, 0 }, api.ErrForm},
		{"open ahead of no Last", both(openAll, lasts(0, 0)), api.ErrFull},
		{"open ahead of too many Last", both(openAll, lasts(4, 0)), api.ErrFull},
		{"open ahead of Seq", both(openAll, last(0, -1, api.Answer{})), api.ErrFull},
		{"blocks ahead of an answer", both(zone(0, api.Full, many(9, 1)...), last(0, 1, wrote(8))), api.ErrMany},
		{"no zones ahead of Seq", both(noZones, last(0, 41, api.Answer{})), api.ErrForm},
		{"no keys ahead of Seq", both(noKeys, last(0, 41, api.Answer{})), api.ErrForm},
		{"a block ahead of no Last", both(zone(3, api.Full, -1), lasts(0, 0)), api.ErrRange},
		{"a block ahead of no number", both(zone(3, api.Full, -1), last(0, 0, wrote(1))), api.ErrRange},
	}
}

// lastFaults: what is wrong with Last of one hand, whichever it is.
func lastFaults(who int) []fault {
	var out []fault
	add := func(name string, seq int, a api.Answer, want api.Errno) {
		out = append(out, fault{fmt.Sprint(name, " of hand ", who), last(who, seq, a), want})
	}
	add("Seq below", -1, api.Answer{}, api.ErrRange)
	add("Seq above", 41, api.Answer{}, api.ErrRange)
	add("least Seq", math.MinInt, api.Answer{}, api.ErrRange)
	add("greatest Seq", math.MaxInt, api.Answer{}, api.ErrRange)
	for _, seq := range []int{0, 1, 40} {
		add("E below", seq, fail(-1), api.ErrRange)
		add("E above", seq, fail(10), api.ErrRange)
		add("At below", seq, wrote(-1), api.ErrRange)
		add("At above", seq, wrote(8), api.ErrRange)
		add("greatest At", seq, wrote(math.MaxInt), api.ErrRange)
		add("too much Data", seq, got(many(9, 1)...), api.ErrMany)
		add("a value", seq, got(1, 1000), api.ErrRange)
		add("an error and At", seq, api.Answer{E: api.ErrFull, At: 1}, api.ErrForm)
		add("an error and Data", seq, api.Answer{E: api.ErrFull, Data: []int{0}}, api.ErrForm)
	}
	add("no number, and E", 0, fail(api.ErrText), api.ErrForm)
	add("no number, and At", 0, wrote(7), api.ErrForm)
	add("no number, and Data", 0, got(0), api.ErrForm)
	add("no number, and At and Data", 0, api.Answer{At: 1, Data: []int{1}}, api.ErrForm)
	add("Seq ahead of too much Data", 41, got(many(9, 1)...), api.ErrRange)
	add("Seq ahead of an error's At", -1, api.Answer{E: api.ErrFull, At: 1}, api.ErrRange)
	add("too much Data ahead of no number", 0, got(many(9, 1)...), api.ErrMany)
	add("a value ahead of no number", 0, got(-1), api.ErrRange)
	return out
}

// wrongs: halls with one fault, and with several.
func wrongs() []fault {
	out := append(deskFaults(), []fault{
		{"no Last", lasts(0, 0), api.ErrForm},
		{"too few Last", lasts(2, 0), api.ErrForm},
		{"too many Last", lasts(4, 0), api.ErrForm},
		{"far too many Last", lasts(200, 1), api.ErrForm},
		{"too few Last ahead of Seq", lasts(2, -1), api.ErrForm},
		{"too many Last ahead of Seq", lasts(4, 41), api.ErrForm},
		{"no number, then Seq", both(last(0, 0, wrote(1)), last(1, 41, api.Answer{})), api.ErrForm},
		{"Seq, then no number", both(last(0, 41, api.Answer{}), last(1, 0, wrote(1))), api.ErrRange},
		{"too much Data, then Seq", both(last(1, 1, got(many(9, 1)...)), last(2, -1, api.Answer{})), api.ErrMany},
		{"Seq, then too much Data", both(last(1, -1, api.Answer{}), last(2, 1, got(many(9, 1)...))), api.ErrRange},
		{"an error's At, then too much Data", both(last(0, 1, api.Answer{E: api.ErrKey, At: 1}), last(2, 1, got(many(9, 1)...))), api.ErrForm},
		{"no number, then At", both(last(0, 0, fail(api.ErrKey)), last(2, 1, wrote(8))), api.ErrForm},
	}...)
	for who := range api.MaxHands {
		out = append(out, lastFaults(who)...)
	}
	return out
}

// eachFault goes through all faults, each done to several halls.
func eachFault(l []fault, do func(h api.Hall, c fault)) {
	for i := range halls() {
		for _, c := range l {
			h := halls()[i]
			c.spoil(&h)
			do(h, c)
		}
	}
}

func TestCheckErrorsAndWhichIsFirst(t *testing.T) {
	eachFault(append(rightOnes(), wrongs()...), func(h api.Hall, c fault) {
		if e := hall.Check(h); e != c.want {
			t.Errorf("%s: %d, want %d", c.name, e, c.want)
		}
	})
	if e := hall.Check(api.Hall{}); e != api.ErrForm {
		t.Errorf("zero: %d", e)
	}
}

func TestCheckOfEachNumber(t *testing.T) {
	for seq := -50; seq <= 90; seq++ {
		want := api.OK
		if seq < 0 || seq > 40 {
			want = api.ErrRange
		}
		h := hall.New()
		h.Last[1].Seq = seq
		if e := hall.Check(h); e != want {
			t.Errorf("%d: %d, want %d", seq, e, want)
		}
	}
}

func TestSame(t *testing.T) {
	for i, h := range halls() {
		for k, g := range halls() {
			if hall.Same(h, g) != (i == k) {
				t.Errorf("hall %d and hall %d", i, k)
			}
		}
	}
	for _, c := range []fault{
		{"a state", func(h *api.Hall) { h.D.Zones[3].State++ }, 0},
		{"a block more", func(h *api.Hall) { h.D.Zones[0].Data = append(h.D.Zones[0].Data, 1) }, 0},
		{"a zone less", func(h *api.Hall) { h.D.Zones = h.D.Zones[:3] }, 0},
		{"a key", func(h *api.Hall) { h.D.B.Keys[2]++ }, 0},
		{"a holder", func(h *api.Hall) { h.D.B.Holder++ }, 0},
		{"a type", func(h *api.Hall) { h.D.B.Type++ }, 0},
		{"the first Seq", func(h *api.Hall) { h.Last[0].Seq-- }, 0},
		{"the last Seq", func(h *api.Hall) { h.Last[2].Seq++ }, 0},
		{"E", func(h *api.Hall) { h.Last[1].A.E++ }, 0},
		{"At", func(h *api.Hall) { h.Last[2].A.At-- }, 0},
		{"a value more", func(h *api.Hall) { h.Last[0].A.Data = append(h.Last[0].A.Data, 0) }, 0},
		{"another value", func(h *api.Hall) { h.Last[0].A.Data = append(h.Last[0].A.Data[:0:0], -7) }, 0},
		{"a Last less", func(h *api.Hall) { h.Last = h.Last[:2] }, 0},
		{"a Last more", func(h *api.Hall) { h.Last = append(h.Last, api.Last{}) }, 0},
		{"no Last", func(h *api.Hall) { h.Last = nil }, 0},
		{"the desk alone", func(h *api.Hall) { h.D = api.Desk{} }, 0},
	} {
		eachFault([]fault{c}, func(h api.Hall, c fault) {
			right := slices.ContainsFunc(halls(), func(g api.Hall) bool { return hall.Same(g, h) || hall.Same(h, g) })
			if right || !hall.Same(h, h) {
				t.Errorf("%s: %v", c.name, h)
			}
		})
	}
}

func TestSameWhateverTheyAre(t *testing.T) {
	odd := func() api.Hall {
		return api.Hall{D: api.Desk{Zones: []api.Zone{{State: 77, Data: []int{-5}}}}, Last: []api.Last{{Seq: -3, A: api.Answer{E: 99, At: -8, Data: many(20, -1)}}}}
	}
	other := odd()
	other.Last[0].A.Data[19] = -2
	empty := api.Hall{D: api.Desk{Zones: []api.Zone{}, B: api.Book{Keys: []int{}}}, Last: []api.Last{}}
	emptyData := api.Hall{Last: []api.Last{{A: api.Answer{Data: []int{}}}}}
	order, otherOrder := hall.New(), hall.New()
	order.Last[0].Seq, otherOrder.Last[1].Seq = 1, 1
	for _, c := range []struct {
		name string
		a, b api.Hall
		want bool
	}{
		{"zero", api.Hall{}, api.Hall{}, true},
		{"nil and empty", api.Hall{}, empty, true},
		{"nil and empty in an answer", api.Hall{Last: make([]api.Last, 1)}, emptyData, true},
		{"zero and new", api.Hall{}, hall.New(), false},
		{"alike, but wrong", odd(), odd(), true},
		{"a value among many", odd(), other, false},
		{"other order", order, otherOrder, false},
	} {
		if hall.Same(c.a, c.b) != c.want || hall.Same(c.b, c.a) != c.want {
			t.Errorf("%s: want %v", c.name, c.want)
		}
	}
}

// P8.2: Next

// tryNext holds what is answered against what it must be; with an error all else is zero.
func tryNext(t *testing.T, name string, h api.Hall, r api.Rec, want api.Hall, a api.Answer, e api.Errno) {
	t.Helper()
	next, b, f := hall.Next(h, r)
	if f != e || !same(a, b) || !alike(next, want) {
		t.Errorf("%s: %v at %v: %v %v %d, want %v %v %d", name, r, h, next, b, f, want, a, e)
	}
}

func tryNextFails(t *testing.T, name string, h api.Hall, r api.Rec, e api.Errno) {
	t.Helper()
	tryNext(t, name, h, r, api.Hall{}, api.Answer{}, e)
}

// wrongRecs: records, and what is wrong with them, whatever their numbers (Who and Seq are right where they are not what is wrong).
func wrongRecs(who, seq int) []struct {
	r    api.Rec
	want api.Errno
} {
	clear := asked("clear")
	return []struct {
		r    api.Rec
		want api.Errno
	}{
		{api.Rec{}, api.ErrRange},
		{api.Rec{Who: -1, Seq: seq, C: clear}, api.ErrRange},
		{api.Rec{Who: 3, Seq: seq, C: clear}, api.ErrRange},
		{api.Rec{Who: math.MinInt, Seq: seq, C: clear}, api.ErrRange},
		{api.Rec{Who: math.MaxInt, Seq: seq, C: clear}, api.ErrRange},
		{api.Rec{Who: who, Seq: 0, C: clear}, api.ErrRange},
		{api.Rec{Who: who, Seq: -1, C: clear}, api.ErrRange},
		{api.Rec{Who: who, Seq: 41, C: clear}, api.ErrRange},
		{api.Rec{Who: who, Seq: math.MinInt, C: clear}, api.ErrRange},
		{api.Rec{Who: who, Seq: math.MaxInt, C: clear}, api.ErrRange},
		{api.Rec{Who: 3, Seq: seq}, api.ErrRange},
		{api.Rec{Who: who, Seq: 41}, api.ErrRange},
		{api.Rec{Who: who, Seq: seq}, api.ErrForm},
		{api.Rec{Who: who, Seq: seq, C: api.Cmd{Kind: 13}}, api.ErrForm},
		{api.Rec{Who: who, Seq: seq, C: api.Cmd{Kind: api.CClear, N: 1}}, api.ErrForm},
		{api.Rec{Who: who, Seq: seq, C: api.Cmd{Kind: api.CAppend}}, api.ErrForm},
		{api.Rec{Who: who, Seq: seq, C: api.Cmd{Kind: api.CAppend, Data: many(9, 1)}}, api.ErrMany},
		{api.Rec{Who: who, Seq: seq, C: api.Cmd{Kind: api.COpen, Z: 1000}}, api.ErrRange},
		{api.Rec{Who: who, Seq: seq, C: api.Cmd{Kind: api.CAppend, Data: []int{-1}}}, api.ErrRange},
	}
}

func TestNextSaysTheHallsErrorFirst(t *testing.T) {
	eachFault(wrongs(), func(h api.Hall, c fault) {
		for who := range api.MaxHands {
			for _, seq := range []int{1, 2, 12, 40} {
				tryNextFails(t, c.name, h, api.Rec{Who: who, Seq: seq, C: asked("append 1 5")}, c.want)
			}
		}
		for _, w := range wrongRecs(0, 1) {
			tryNextFails(t, c.name, h, w.r, c.want)
		}
	})
	tryNextFails(t, "zero", api.Hall{}, rec("0 1: clear"), api.ErrForm)
	tryNextFails(t, "zero, no record", api.Hall{}, api.Rec{}, api.ErrForm)
}

// A record that is wrong is told so whether it comes again, in turn or out of it.
func TestNextSaysTheRecordsErrorNext(t *testing.T) {
	for _, h := range halls() {
		for who := range api.MaxHands {
			for seq := 1; seq <= api.MaxSeq; seq++ {
				for _, w := range wrongRecs(who, seq) {
					tryNextFails(t, "wrong record", h, w.r, w.want)
				}
			}
		}
	}
}

// Each number behind each other one, whatever those of the other hands are.
func TestNextOfEachNumber(t *testing.T) {
	for who := range api.MaxHands {
		for before := range api.MaxSeq + 1 {
			for seq := 1; seq <= api.MaxSeq; seq++ {
				h := hall.New()
				for hand := range h.Last {
					h.Last[hand] = api.Last{Seq: seq - (hand+1)%2, A: fail(api.ErrFull)}
					if h.Last[hand].Seq == 0 {
						h.Last[hand] = api.Last{}
					}
				}
				h.Last[who] = api.Last{Seq: before}
				if before > 0 {
					h.Last[who].A = wrote(6)
				}
				tryNumber(t, h, api.Rec{Who: who, Seq: seq, C: asked("append 1 5")})
			}
		}
	}
}

// tryNumber: an append to a zone in which nothing is written yet, where the answer that stands there is another one.
func tryNumber(t *testing.T, h api.Hall, r api.Rec) {
	t.Helper()
	before := h.Last[r.Who].Seq
	switch r.Seq {
	case before:
		tryNext(t, "again", h, r, h, wrote(6), api.OK)
	case before + 1:
		want := api.Hall{D: desk.New(), Last: slices.Clone(h.Last)}
		want.D.Zones[1] = api.Zone{State: api.Open, Data: []int{5}}
		want.Last[r.Who] = api.Last{Seq: r.Seq}
		tryNext(t, "in turn", h, r, want, api.Answer{}, api.OK)
	default:
		tryNextFails(t, "out of turn", h, r, api.ErrLate)
	}
}

// texts: commands of each kind.
var texts = []string{
	"open 0", "open 1", "open 2", "open 4", "close 0", "close 1", "close 3", "finish 0", "finish 1", "finish 4", "reset 1", "reset 3", "reset 999",
	"append 0 9", "append 1 9 8", "append 2 9 8 7", "append 3 1 2 3 4 5 6 7 8", "append 4 9", "append 0 0 999",
	"write 0 0 9", "write 1 0 9", "write 1 2 9 8", "write 1 3 9", "write 1 5 9", "write 3 8 9", "write 4 0 9",
	"read 0 0 0", "read 0 0 1", "read 1 0 2", "read 1 1 4", "read 3 0 8", "read 3 8 1", "read 4 0 0",
	"register 0", "register 5", "register 9", "register 10", "reserve 0", "reserve 1", "reserve 2", "reserve 3", "reserve 4",
	"release", "preempt 0", "preempt 5", "preempt 7", "clear",
}

// each goes through halls, hands and commands; h is new each time.
func each(do func(h api.Hall, who int, c api.Cmd)) {
	for i := range halls() {
		for who := range api.MaxHands {
			for _, text := range texts {
				do(halls()[i], who, asked(text))
			}
		}
	}
}

// In turn: the desk is what it makes of the command, number and answer stand there, and nothing else changes.
func TestNextInTurnIsWhatTheDeskDoes(t *testing.T) {
	done, refused := 0, 0
	each(func(h api.Hall, who int, c api.Cmd) {
		r := api.Rec{Who: who, Seq: h.Last[who].Seq + 1, C: c}
		if r.Seq > api.MaxSeq {
			tryNextFails(t, "no more", h, r, api.ErrRange)
			return
		}
		d, a, _ := desk.Do(h.D, who, c)
		want := api.Hall{D: d, Last: slices.Clone(h.Last)}
		want.Last[who] = api.Last{Seq: r.Seq, A: a}
		tryNext(t, "in turn", h, r, want, a, api.OK)
		if next, _, _ := hall.Next(h, r); hall.Check(next) != api.OK {
			t.Errorf("%v: what comes of %v is wrong: %v", h, r, next)
		}
		if a.E == api.OK {
			done++
		} else {
			refused++
		}
	})
	if done < 100 || refused < 100 {
		t.Errorf("%d done, %d refused", done, refused)
	}
}

// Again: what stands there is the answer, whatever it is and whatever is asked now, and nothing changes.
func TestNextAgainIsAnsweredAsItStands(t *testing.T) {
	answers := []api.Answer{{}, wrote(7), got(0, 999), got(many(8, 5)...), {At: 3, Data: []int{1}}}
	for e := api.ErrText; e <= api.ErrTorn; e++ {
		answers = append(answers, fail(e))
	}
	each(func(h api.Hall, who int, c api.Cmd) {
		for i, a := range answers {
			h.Last[who] = api.Last{Seq: 1 + i*3%api.MaxSeq, A: a}
			tryNext(t, "again", h, api.Rec{Who: who, Seq: h.Last[who].Seq, C: c}, h, a, api.OK)
		}
	})
}

// P8.2: Replay

func tryReplay(t *testing.T, name string, l []api.Rec, want api.Hall, e api.Errno) {
	t.Helper()
	if h, f := hall.Replay(l); f != e || !alike(h, want) {
		t.Errorf("%s: %v %d, want %v %d", name, h, f, want, e)
	}
}

// inTurn: n records of all hands, each in turn, for which there is room as long as zones are reset.
func inTurn(n int) []api.Rec {
	var l []api.Rec
	for i := range n {
		text := []string{"append 1 7 8", "append 2 9", "read 1 0 1", "reset 1", "register 5", "append 3 6", "reset 3"}[i%7]
		l = append(l, api.Rec{Who: i % api.MaxHands, Seq: i/api.MaxHands + 1, C: asked(text)})
	}
	return l
}

func TestReplayOfEachNumber(t *testing.T) {
	tryReplay(t, "none", nil, hall.New(), api.OK)
	tryReplay(t, "empty", []api.Rec{}, hall.New(), api.OK)
	for n := range 81 {
		tryReplay(t, fmt.Sprint(n), inTurn(n), after(inTurn(n)), api.OK)
	}
	for n := 81; n <= 120; n++ {
		tryReplay(t, fmt.Sprint(n), inTurn(n), api.Hall{}, api.ErrMany)
	}
	again := slices.Repeat(recs("1 1: append 1 5"), 100)
	tryReplay(t, "80 times the same", again[:80], after(again[:1]), api.OK)
	tryReplay(t, "81 times the same", again[:81], api.Hall{}, api.ErrMany)
}

func TestReplayIsTooManyAheadOfAllElse(t *testing.T) {
	tryReplay(t, "zero", make([]api.Rec, 81), api.Hall{}, api.ErrMany)
	tryReplay(t, "far too many", make([]api.Rec, 5000), api.Hall{}, api.ErrMany)
	late := slices.Repeat(recs("0 2: clear"), 81)
	tryReplay(t, "late", late, api.Hall{}, api.ErrMany)
	tryReplay(t, "one less: late", late[:80], api.Hall{}, api.ErrLate)
	tryReplay(t, "one less: zero", make([]api.Rec, 80), api.Hall{}, api.ErrRange)
	for _, w := range wrongRecs(0, 1) {
		tryReplay(t, "a wrong one first", append([]api.Rec{w.r}, inTurn(80)...), api.Hall{}, api.ErrMany)
		tryReplay(t, "a wrong one last", append(inTurn(80), w.r), api.Hall{}, api.ErrMany)
	}
}

func TestReplayOfTheStory(t *testing.T) {
	l := story()
	for n := range len(l) + 1 {
		tryReplay(t, fmt.Sprint(n), l[:n], after(l[:n]), api.OK)
	}
}

func TestReplayInAndOutOfTurn(t *testing.T) {
	once := recs("0 1: append 1 5", "1 1: append 1 6", "0 2: append 1 7")
	for _, c := range []struct {
		name string
		l    []api.Rec
		want api.Errno
	}{
		{"each again", recs("0 1: append 1 5", "0 1: append 1 5", "1 1: append 1 6", "1 1: append 1 6", "0 2: append 1 7", "0 2: append 1 7"), api.OK},
		{"again behind another hand's", recs("0 1: append 1 5", "1 1: append 1 6", "0 1: append 1 5", "0 2: append 1 7", "1 1: append 1 6"), api.OK},
		{"again as another command", recs("0 1: append 1 5", "0 1: reset 1", "1 1: append 1 6", "1 1: clear", "0 2: append 1 7"), api.OK},
		{"too early at the begin", recs("0 2: clear"), api.ErrLate},
		{"far too early", recs("2 40: clear"), api.ErrLate},
		{"too early", recs("0 1: clear", "0 3: clear"), api.ErrLate},
		{"too early for this hand", recs("0 1: clear", "1 2: clear"), api.ErrLate},
		{"too late", recs("0 1: clear", "0 2: clear", "0 1: clear"), api.ErrLate},
		{"too late behind another hand's", recs("0 1: clear", "0 2: clear", "1 1: clear", "0 1: clear"), api.ErrLate},
		{"in turn behind too early", recs("0 2: clear", "0 1: clear", "0 2: clear"), api.ErrLate},
	} {
		want := api.Hall{}
		if c.want == api.OK {
			want = after(once)
		}
		tryReplay(t, c.name, c.l, want, c.want)
	}
}

// A wrong record, or one out of turn, at each place of a list; of two of them the first one is told.
func TestReplaySaysTheErrorOfTheFirst(t *testing.T) {
	late := api.Rec{Who: 1, Seq: 40, C: asked("clear")}
	for at := range 80 {
		for _, w := range wrongRecs(2, 1) {
			l := slices.Insert(inTurn(79), at, w.r)
			tryReplay(t, "wrong", l, api.Hall{}, w.want)
			if at == 79 {
				continue
			}
			l[79] = late
			tryReplay(t, "wrong, then late", l, api.Hall{}, w.want)
			l[79], l[at] = w.r, late
			tryReplay(t, "late, then wrong", l, api.Hall{}, api.ErrLate)
		}
		tryReplay(t, "late", slices.Insert(inTurn(79), at, late), api.Hall{}, api.ErrLate)
	}
}

// What a command is refused is no error of a replay.
func TestReplayOfRefusals(t *testing.T) {
	h, e := hall.Replay(recs("0 1: read 9 0 1", "1 1: reserve 1", "2 1: close 1"))
	want := []api.Last{{Seq: 1, A: fail(api.ErrWho)}, {Seq: 1, A: fail(api.ErrKey)}, {Seq: 1, A: fail(api.ErrLate)}}
	if e != api.OK || !alike(h, api.Hall{D: desk.New(), Last: want}) {
		t.Errorf("%v %d", h, e)
	}
}

// P8.3

// steps: records one after the other, and what each of them is answered.
type steps []struct {
	text string
	a    api.Answer
}

func trySteps(t *testing.T, h api.Hall, l steps) api.Hall {
	t.Helper()
	for i, s := range l {
		next, a, e := hall.Next(h, rec(s.text))
		if e != api.OK || !same(a, s.a) {
			t.Fatalf("%d: %s: %v %d, want %v", i, s.text, a, e, s.a)
		}
		h = next
	}
	return h
}

func TestAgainIsAnsweredAsItWas(t *testing.T) {
	h := trySteps(t, hall.New(), steps{
		{"0 1: append 1 5 6", wrote(0)}, {"0 1: append 1 5 6", wrote(0)},
		{"1 1: append 1 7", wrote(2)}, {"0 1: append 1 5 6", wrote(0)}, {"1 1: append 1 7", wrote(2)},
		{"2 1: read 1 1 2", got(6, 7)}, {"0 2: reset 1", api.Answer{}}, {"2 1: read 1 1 2", got(6, 7)}, // though it isn't there any more
		{"1 1: append 1 7", wrote(2)}, // and isn't written again
		{"2 2: read 1 0 1", fail(api.ErrLate)}, {"0 3: append 1 9", wrote(0)},
	})
	if z := h.D.Zones[1]; z.State != api.Open || !slices.Equal(z.Data, []int{9}) {
		t.Errorf("%v", z)
	}
	tryNextFails(t, "one ahead of the last", h, rec("0 2: reset 1"), api.ErrLate)
	trySteps(t, h, steps{{"2 2: read 1 0 1", fail(api.ErrLate)}, {"2 3: read 1 0 1", got(9)}}) // refused as it was, though it could be read by now
}

func TestWhatIsRefusedIsRefusedAgain(t *testing.T) {
	h := trySteps(t, hall.New(), steps{
		{"0 1: register 5", api.Answer{}}, {"0 2: reserve 2", api.Answer{}}, {"1 1: append 1 7", fail(api.ErrKey)},
		{"0 3: release", api.Answer{}}, {"1 1: append 1 7", fail(api.ErrKey)}, {"0 3: release", api.Answer{}}, {"1 1: append 1 7", fail(api.ErrKey)},
	})
	if len(h.D.Zones[1].Data) != 0 {
		t.Errorf("%v", h)
	}
	trySteps(t, h, steps{{"1 2: append 1 7", wrote(0)}, {"1 2: append 1 7", wrote(0)}})
}

// Each record of the story comes once or more often, and the last one of each hand again behind it.
func TestHoweverOftenTheStoryComes(t *testing.T) {
	for times := 1; times <= 4; times++ {
		h, m := hall.New(), newModel()
		for i, r := range story() {
			m = m.done(r.Who, r.C)
			for range 1 + i%times {
				tryNext(t, "the story", h, r, m.hall(), m.hall().Last[r.Who].A, api.OK)
				h, _, _ = hall.Next(h, r)
			}
			for who, l := range m.got { // all that may come again does
				if len(l) > 0 {
					tryNext(t, "again", h, api.Rec{Who: who, Seq: len(l), C: asked("reset 1")}, m.hall(), l[len(l)-1], api.OK)
				}
			}
		}
	}
}

// Records of two hands come in every order, each any number of times, up to seven of them: the hall is that of those that came in turn, each done once, and so is what a replay of these makes.
func TestRecordsInEveryOrder(t *testing.T) {
	all := recs("0 1: append 1 5", "0 2: read 1 0 1", "0 3: append 1 6", "1 1: append 1 7", "1 2: reset 1")
	var grow func(h api.Hall, m model, log []api.Rec, left int)
	grow = func(h api.Hall, m model, log []api.Rec, left int) {
		if left == 0 {
			tryReplay(t, "what was done", log, m.hall(), api.OK)
			return
		}
		for _, r := range all {
			next, a, e := hall.Next(h, r)
			before := len(m.got[r.Who])
			switch {
			case r.Seq == before+1:
				to := m.done(r.Who, r.C)
				if e != api.OK || !same(a, to.got[r.Who][before]) || !alike(next, to.hall()) {
					t.Fatalf("%v behind %v: %v %v %d", r, log, next, a, e)
				}
				grow(next, to, append(slices.Clone(log), r), left-1)
			case r.Seq == before:
				if e != api.OK || !same(a, m.got[r.Who][before-1]) || !alike(next, h) {
					t.Fatalf("%v again, behind %v: %v %v %d", r, log, next, a, e)
				}
				grow(next, m, log, left-1)
			default:
				if e != api.ErrLate || !same(a, api.Answer{}) || !isZero(next) {
					t.Fatalf("%v behind %v: %v %v %d", r, log, next, a, e)
				}
			}
		}
	}
	grow(hall.New(), newModel(), nil, 7)
}

// A long run of any records, some again, some too early or too late, till all hands have asked all that they may; then from New on.
func TestLongRun(t *testing.T) {
	seed := uint32(11)
	pick := func(n int) int {
		seed = seed*1664525 + 1013904223
		return int(seed>>16) % n
	}
	for range 40 {
		h, m := hall.New(), newModel()
		for range 1500 {
			r := api.Rec{Who: pick(api.MaxHands), C: asked(texts[pick(len(texts))])}
			before := len(m.got[r.Who])
			r.Seq = before + pick(5) - 1
			want, a, e := api.Hall{}, api.Answer{}, api.ErrLate
			switch {
			case r.Seq < 1 || r.Seq > api.MaxSeq:
				e = api.ErrRange
			case r.Seq == before:
				want, a, e = h, m.got[r.Who][before-1], api.OK
			case r.Seq == before+1:
				m = m.done(r.Who, r.C)
				want, a, e = m.hall(), m.got[r.Who][before], api.OK
			}
			tryNext(t, "long run", h, r, want, a, e)
			if e == api.OK {
				h, _, _ = hall.Next(h, r)
			}
		}
		for who, l := range m.got {
			if len(l) != api.MaxSeq {
				t.Errorf("hand %d has asked %d", who, len(l))
			}
		}
	}
}

// P2 of the document: what is handed in is only read, what is answered is new memory.

// lists: all lists of numbers of a hall, and these.
func lists(h api.Hall, more ...[]int) [][]int {
	out := append(more, h.D.B.Keys)
	for _, z := range h.D.Zones {
		out = append(out, z.Data)
	}
	for _, l := range h.Last {
		out = append(out, l.A.Data)
	}
	return out
}

// roomy copies l; there is room to spare behind it.
func roomy(l []int) []int { return append(slices.Clone(l), 51, 52, 53)[:len(l)] }

// roomyHall copies a hall: there is room to spare behind each list of it.
func roomyHall(h api.Hall) api.Hall {
	next := api.Hall{D: api.Desk{B: h.D.B}}
	next.D.B.Keys = roomy(h.D.B.Keys)
	for _, z := range h.D.Zones {
		next.D.Zones = append(next.D.Zones, api.Zone{State: z.State, Data: roomy(z.Data)})
	}
	next.D.Zones = append(next.D.Zones, api.Zone{State: api.Held, Data: []int{61, 62}})[:len(h.D.Zones)]
	for _, l := range h.Last {
		l.A.Data = roomy(l.A.Data)
		next.Last = append(next.Last, l)
	}
	next.Last = append(next.Last, api.Last{Seq: 7, A: got(71, 72)})[:len(h.Last)]
	return next
}

// withRoom tells a hall, lists of numbers, and the room to spare behind all their lists.
func withRoom(h api.Hall, more ...[]int) string {
	s := fmt.Sprint(h, h.D.Zones[:cap(h.D.Zones)], h.Last[:cap(h.Last)])
	for _, l := range lists(h, more...) {
		s += fmt.Sprint(l[:cap(l)])
	}
	return s
}

func scribble(l []int) {
	l = l[:cap(l)]
	for i := range l {
		l[i] = -9
	}
}

// scribbleHall writes over a hall, and the room to spare behind its lists.
func scribbleHall(h api.Hall) {
	for _, l := range lists(h) {
		scribble(l)
	}
	for i := range h.D.Zones[:cap(h.D.Zones)] {
		h.D.Zones[:cap(h.D.Zones)][i] = api.Zone{State: -9}
	}
	for i := range h.Last[:cap(h.Last)] {
		h.Last[:cap(h.Last)][i] = api.Last{Seq: -9}
	}
}

// eachRight goes through records that come in turn, and that come again.
func eachRight(do func(h api.Hall, r api.Rec)) {
	each(func(h api.Hall, who int, c api.Cmd) {
		if seq := h.Last[who].Seq; seq < api.MaxSeq {
			do(h, api.Rec{Who: who, Seq: seq + 1, C: c})
		}
	})
	each(func(h api.Hall, who int, c api.Cmd) {
		h.Last[who] = api.Last{Seq: 4, A: api.Answer{At: 1, Data: []int{5, 6}}}
		do(h, api.Rec{Who: who, Seq: 4, C: c})
	})
}

func TestNextHandedInIsOnlyReadAndAnsweredIsNew(t *testing.T) {
	eachRight(func(h api.Hall, r api.Rec) {
		h, r.C.Data = roomyHall(h), roomy(r.C.Data)
		before := withRoom(h, r.C.Data)
		next, a, _ := hall.Next(h, r)
		answered := fmt.Sprint(next, a)
		if after := withRoom(h, r.C.Data); after != before {
			t.Errorf("%v: %s, was %s", r, after, before)
		}
		again, b, _ := hall.Next(h, r)
		scribbleHall(h)
		scribble(r.C.Data)
		if fmt.Sprint(next, a) != answered {
			t.Errorf("%v: what was handed in is kept: %v %v, was %s", r, next, a, answered)
		}
		scribbleHall(next)
		scribble(a.Data)
		if fmt.Sprint(again, b) != answered {
			t.Errorf("%v: two answers share memory: %v %v, was %s", r, again, b, answered)
		}
	})
}

func TestListsOfAnAnswerShareNothing(t *testing.T) {
	eachRight(func(h api.Hall, r api.Rec) {
		next, a, _ := hall.Next(h, r)
		all := lists(next, a.Data)
		for i := range all {
			others := slices.Concat(all[:i], all[i+1:])
			before := fmt.Sprint(others)
			scribble(all[i])
			if after := fmt.Sprint(others); after != before {
				t.Fatalf("%v: %s, was %s", r, after, before)
			}
		}
	})
}

func TestReplayHandedInIsOnlyReadAndAnsweredIsNew(t *testing.T) {
	for _, records := range [][]api.Rec{nil, story(), inTurn(80), inTurn(81), recs("0 1: append 1 5", "0 1: append 1 5", "0 3: append 1 6")} {
		l := append(slices.Clone(records), rec("2 9: append 1 2"))[:len(records)]
		for i := range l {
			l[i].C.Data = roomy(l[i].C.Data)
		}
		tell := func() string {
			s := fmt.Sprint(l[:cap(l)])
			for _, r := range l {
				s += fmt.Sprint(r.C.Data[:cap(r.C.Data)])
			}
			return s
		}
		before := tell()
		h, _ := hall.Replay(l)
		answered := fmt.Sprint(h)
		if tell() != before {
			t.Errorf("%s, was %s", tell(), before)
		}
		again, _ := hall.Replay(l)
		for i := range l {
			scribble(l[i].C.Data)
			l[i] = api.Rec{Who: -9}
		}
		if fmt.Sprint(h) != answered {
			t.Errorf("what was handed in is kept: %v, was %s", h, answered)
		}
		scribbleHall(h)
		if fmt.Sprint(again) != answered {
			t.Errorf("two answers share memory: %v, was %s", again, answered)
		}
	}
}

// One list may be handed in for zones, keys, answers and the data.
func TestHandedInMayShare(t *testing.T) {
	list := []int{5, 6, 7, 80, 81, 82}
	shared := api.Zone{State: api.Open, Data: list[:3]}
	l := api.Last{Seq: 1, A: api.Answer{Data: list[:3]}}
	h := api.Hall{D: api.Desk{Zones: []api.Zone{shared, shared, {}, {}}, B: api.Book{Keys: list[:3], Holder: -1}}, Last: []api.Last{l, l, l}}
	tryNext(t, "again", h, api.Rec{Who: 1, Seq: 1, C: api.Cmd{Kind: api.CAppend, Data: list[:2]}}, h, got(5, 6, 7), api.OK)
	next, a, e := hall.Next(h, api.Rec{Who: 1, Seq: 2, C: api.Cmd{Kind: api.CAppend, Z: 1, Data: list[1:3]}})
	if e != api.OK || !same(a, wrote(3)) || !slices.Equal(next.D.Zones[1].Data, []int{5, 6, 7, 6, 7}) {
		t.Errorf("%v %d, %v", a, e, next)
	}
	scribbleHall(next)
	if !slices.Equal(list, []int{5, 6, 7, 80, 81, 82}) {
		t.Errorf("handed in: %v", list)
	}
}

func TestAllOthersOnlyRead(t *testing.T) {
	eachFault(append(rightOnes(), wrongs()...), func(h api.Hall, c fault) {
		h = roomyHall(h)
		data := roomy([]int{1, 2})
		before := withRoom(h, data)
		hall.Check(h)
		hall.Same(h, h)
		hall.Next(h, api.Rec{Who: 2, Seq: 40, C: api.Cmd{Kind: api.CAppend, Data: data}})
		hall.Next(h, api.Rec{Who: 2, Seq: 1, C: api.Cmd{Kind: api.CAppend, At: -1, Data: data}})
		if after := withRoom(h, data); after != before {
			t.Errorf("%s: %s, was %s", c.name, after, before)
		}
	})
}
