package tally_test

import (
	"fmt"
	"slices"
	"strings"
	"testing"

	"quayhand/api"
	"quayhand/book"
	"quayhand/hall"
	"quayhand/note"
	"quayhand/story"
	"quayhand/tally"
	"quayhand/world"
)

// rec: the record of a text; it must be a right one.
func rec(text string) api.Rec {
	r, e := note.Parse(text)
	if e != api.OK {
		panic(fmt.Sprint(text, ": ", e))
	}
	return r
}

func recs(texts ...string) []api.Rec {
	var l []api.Rec
	for _, s := range texts {
		l = append(l, rec(s))
	}
	return l
}

// zones: whose the blocks of each zone must be, a digit a block.
type zones [api.MaxZones]string

func digits(s string) []int {
	var l []int
	for _, d := range s {
		l = append(l, int(d-'0'))
	}
	return l
}

// try holds what is answered of each zone against what must be.
func try(t *testing.T, name string, l []api.Rec, want zones) {
	t.Helper()
	for k, s := range want {
		if got, e := tally.Owners(l, k); e != api.OK || !slices.Equal(got, digits(s)) {
			t.Errorf("%s: zone %d is of %v %d, want %q", name, k, got, e, s)
		}
	}
}

// answered holds what the hall answers of the last record against what a case needs.
func answered(t *testing.T, name string, l []api.Rec, want api.Errno) {
	t.Helper()
	h := hall.New()
	var a api.Answer
	for _, r := range l {
		var e api.Errno
		if h, a, e = hall.Next(h, r); e != api.OK {
			t.Fatalf("%s: %v: %d", name, r, e)
		}
	}
	if a.E != want {
		t.Errorf("%s: the last one is answered %v, want %d", name, a, want)
	}
}

// P12.1

func TestNoRecords(t *testing.T) {
	try(t, "nil", nil, zones{})
	try(t, "empty", []api.Rec{}, zones{})
}

// scene: what was done, whose blocks there are then, and the error that the last command is answered by.
type scene struct {
	name string
	want zones
	last api.Errno
	log  []api.Rec
}

func tryScenes(t *testing.T, l []scene) {
	t.Helper()
	for _, s := range l {
		answered(t, s.name, s.log, s.last)
		try(t, s.name, s.log, s.want)
	}
}

func TestWhoWrote(t *testing.T) {
	tryScenes(t, []scene{
		{"hand 0, zone 0", zones{"0"}, api.OK, recs("0 1: append 0 5")},
		{"hand 1, zone 1", zones{"", "11"}, api.OK, recs("1 1: append 1 5 6")},
		{"hand 2, zone 2", zones{"", "", "22222222"}, api.OK, recs("2 1: append 2 1 2 3 4 5 6 7 8")},
		{"hand 0, zone 3", zones{"", "", "", "000"}, api.OK, recs("0 1: write 3 0 5 5 5")},
		{"several hands", zones{"", "012002"}, api.OK, recs("0 1: append 1 5", "1 1: append 1 5", "2 1: write 1 2 5", "0 2: append 1 5 5", "2 2: append 1 5")},
		{"several hands, several blocks", zones{"", "", "11100022"}, api.OK, recs("1 1: append 2 0 0 0", "0 1: write 2 3 0 0 0", "2 1: append 2 0 0")},
		{"one hand, again and again", zones{"2222"}, api.OK, recs("2 1: append 0 5", "2 2: append 0 6", "2 3: write 0 2 7", "2 4: append 0 8")},
		{"each zone by all", zones{"0120", "1201", "2012"}, api.OK, recs(
			"0 1: append 0 1", "1 1: append 1 1", "2 1: append 2 1", "1 2: append 0 1", "2 2: append 1 1", "0 2: append 2 1",
			"2 3: append 0 1", "0 3: append 1 1", "1 3: append 2 1", "0 4: append 0 1", "1 4: append 1 1", "2 4: append 2 1")},
		{"four zones, as three are finished", zones{"0", "11", "222", "0"}, api.OK, recs(
			"0 1: append 0 5", "1 1: append 1 5 6", "2 1: append 2 5 6 7", "0 2: finish 1", "0 3: append 3 5")},
		{"it is full", zones{"", "01201201"}, api.OK, recs(
			"0 1: append 1 5", "1 1: append 1 5", "2 1: append 1 5", "0 2: append 1 5", "1 2: append 1 5", "2 2: append 1 5", "0 3: append 1 5", "1 3: append 1 5")},
	})
}

// What neither writes nor resets makes nobody else's of what is written.
func TestWhatDoesNotWrite(t *testing.T) {
	tryScenes(t, []scene{
		{"read", zones{"", "0"}, api.OK, recs("0 1: append 1 5", "2 1: read 1 0 1", "1 1: read 1 0 0")},
		{"opened", zones{"", "0"}, api.OK, recs("0 1: append 1 5", "1 1: open 1")},
		{"opened, and nobody has written", zones{}, api.OK, recs("0 1: open 1")},
		{"opened ahead of it", zones{"", "1"}, api.OK, recs("0 1: open 1", "1 1: append 1 5")},
		{"closed", zones{"", "00"}, api.OK, recs("0 1: append 1 5 6", "1 1: close 1")},
		{"closed, and nobody has written", zones{}, api.OK, recs("0 1: open 1", "1 1: close 1")},
		{"closed, and written on", zones{"", "002"}, api.OK, recs("0 1: append 1 5 6", "1 1: close 1", "2 1: append 1 5")},
		{"shut by a third one", zones{"0", "1", "2"}, api.OK, recs("0 1: append 0 5", "1 1: append 1 5", "2 1: append 2 5")},
		{"shut by a third one, and written on", zones{"01", "1", "2"}, api.OK, recs("0 1: append 0 5", "1 1: append 1 5", "2 1: append 2 5", "1 2: append 0 5")},
		{"finished", zones{"", "02"}, api.OK, recs("0 1: append 1 5", "2 1: append 1 5", "1 1: finish 1")},
		{"finished, and nobody has written", zones{}, api.OK, recs("1 1: finish 1")},
		{"registered", zones{"", "0"}, api.OK, recs("0 1: append 1 5", "1 1: register 5")},
		{"reserved", zones{"", "0"}, api.OK, recs("0 1: append 1 5", "1 1: register 5", "1 2: reserve 2")},
		{"released", zones{"", "01"}, api.OK, recs("0 1: append 1 5", "1 1: register 5", "1 2: reserve 2", "1 3: append 1 5", "1 4: release")},
		{"who wrote is registered no more", zones{"", "1"}, api.OK, recs("1 1: register 5", "1 2: append 1 5", "1 3: register 0")},
		{"who wrote holds no more", zones{"", "1"}, api.OK, recs("1 1: register 5", "1 2: reserve 2", "1 3: append 1 5", "2 1: register 6", "2 2: preempt 5")},
		{"cleared", zones{"", "10"}, api.OK, recs("1 1: register 5", "1 2: append 1 5", "0 1: append 1 5", "1 3: clear")},
	})
}

func TestReset(t *testing.T) {
	tryScenes(t, []scene{
		{"by who wrote", zones{}, api.OK, recs("0 1: append 1 5 6", "0 2: reset 1")},
		{"by another one", zones{}, api.OK, recs("0 1: append 1 5 6", "1 1: reset 1")},
		{"nobody has written", zones{}, api.OK, recs("0 1: reset 1")},
		{"another zone", zones{"", "00"}, api.OK, recs("0 1: append 1 5 6", "1 1: append 2 5", "2 1: reset 2")},
		{"written again", zones{"", "2"}, api.OK, recs("0 1: append 1 5 6", "1 1: reset 1", "2 1: append 1 5")},
		{"written again, by as many blocks", zones{"", "21"}, api.OK, recs("0 1: append 1 5 6", "1 1: reset 1", "2 1: append 1 5", "1 2: append 1 6")},
		{"written again, by more", zones{"", "1111"}, api.OK, recs("0 1: append 1 5 6", "1 1: reset 1", "1 2: write 1 0 5 6 7 8")},
		{"again and again", zones{"", "02"}, api.OK, recs("0 1: append 1 5 6", "1 1: reset 1", "1 2: append 1 5 6 7", "2 1: reset 1", "2 2: reset 1", "0 2: append 1 5", "2 3: append 1 5")},
		{"it was full", zones{"", "1"}, api.OK, recs("0 1: append 1 1 2 3 4 5 6 7 8", "0 2: reset 1", "1 1: append 1 5")},
		{"it was finished", zones{"", "11"}, api.OK, recs("0 1: append 1 5", "0 2: finish 1", "2 1: reset 1", "1 1: append 1 5 6")},
		{"it was closed", zones{"", "1"}, api.OK, recs("0 1: append 1 5", "0 2: close 1", "2 1: reset 1", "1 1: append 1 5")},
	})
}

// A command that is answered by an error wrote nothing, and took nothing away.
func TestAnsweredByAnError(t *testing.T) {
	held := []string{"0 1: append 1 5", "1 1: register 5", "1 2: reserve 1"}
	full := []string{"0 1: append 1 5", "1 1: append 1 1 2 3 4 5 6 7"}
	tryScenes(t, []scene{
		{"append by who may not", zones{"", "0"}, api.ErrKey, recs(append(held, "2 1: append 1 6")...)},
		{"write by who may not", zones{"", "0"}, api.ErrKey, recs(append(held, "2 1: write 1 1 6")...)},
		{"reset by who may not", zones{"", "0"}, api.ErrKey, recs(append(held, "0 2: reset 1")...)},
		{"finish by who may not", zones{"", "01"}, api.OK, recs(append(held, "0 2: finish 1", "1 3: append 1 6")...)},
		{"append to a full one", zones{"", "01111111"}, api.ErrFull, recs(append(full, "2 1: append 1 6")...)},
		{"write to a full one", zones{"", "01111111"}, api.ErrFull, recs(append(full, "2 1: write 1 8 6")...)},
		{"append to a finished one", zones{"", "0"}, api.ErrFull, recs("0 1: append 1 5", "0 2: finish 1", "2 1: append 1 6")},
		{"there isn't room for all", zones{"", "0"}, api.ErrFull, recs("0 1: append 1 5", "2 1: append 1 1 2 3 4 5 6 7 8")},
		{"written too early", zones{"", "0"}, api.ErrLate, recs("0 1: append 1 5", "2 1: write 1 2 6")},
		{"written too late", zones{"", "0"}, api.ErrLate, recs("0 1: append 1 5", "2 1: write 1 0 6")},
		{"append to no zone", zones{"", "0"}, api.ErrWho, recs("0 1: append 1 5", "2 1: append 4 6")},
		{"reset of no zone", zones{"", "0"}, api.ErrWho, recs("0 1: append 1 5", "2 1: reset 999")},
		{"no more may be open", zones{"0", "1", "2"}, api.ErrFull, recs("0 1: append 0 5", "1 1: append 1 5", "2 1: append 2 5", "0 2: append 3 5")},
		{"none of those that are open may be shut", zones{}, api.ErrFull, recs("0 1: open 0", "0 2: open 1", "1 1: append 2 5")},
		{"close of one that isn't open", zones{"", "0"}, api.ErrLate, recs("0 1: append 1 5", "1 1: close 1", "2 1: close 1")},
		{"clear by who may not", zones{"", "0"}, api.ErrKey, recs("0 1: append 1 5", "2 1: clear")},
		{"refused, and written then", zones{"", "02"}, api.OK, recs("0 1: append 1 5", "2 1: write 1 0 6", "2 2: write 1 1 6")},
	})
}

// The last one of a hand may stand there again, even with another command: it isn't done again.
func TestRecordsThatComeTwice(t *testing.T) {
	tryScenes(t, []scene{
		{"at once", zones{"", "1"}, api.OK, recs("1 1: append 1 5", "1 1: append 1 5")},
		{"later", zones{"", "1200"}, api.OK, recs("1 1: append 1 5", "2 1: append 1 6", "0 1: append 1 5 6", "1 1: append 1 5")},
		{"each one", zones{"", "12"}, api.OK, recs("1 1: append 1 5", "1 1: append 1 5", "2 1: append 1 6", "2 1: append 1 6", "1 1: append 1 5")},
		{"and another one behind it", zones{"", "121"}, api.OK, recs("1 1: append 1 5", "2 1: append 1 6", "1 1: append 1 5", "1 2: append 1 5")},
		{"with more", zones{"", "1"}, api.OK, recs("1 1: append 1 5", "1 1: append 1 5 6 7")},
		{"with another zone", zones{"", "1"}, api.OK, recs("1 1: append 1 5", "1 1: append 2 5")},
		{"with a reset", zones{"", "1"}, api.OK, recs("1 1: append 1 5", "1 1: reset 1")},
		{"with a finish", zones{"", "12"}, api.OK, recs("1 1: append 1 5", "1 1: finish 1", "2 1: append 1 5")},
		{"a read, with an append", zones{}, api.OK, recs("1 1: read 1 0 0", "1 1: append 1 5")},
		{"the zone was reset", zones{}, api.OK, recs("1 1: append 1 5", "2 1: reset 1", "1 1: append 1 5")},
		{"a reset, and it was written", zones{"", "0"}, api.OK, recs("1 1: append 1 5", "2 1: reset 1", "0 1: append 1 5", "2 1: reset 1")},
		{"refused, and it could be done", zones{"", "0"}, api.ErrLate, recs("1 1: write 1 1 5", "0 1: append 1 5", "1 1: write 1 1 5")},
		{"done, and it would be refused", zones{"", "10"}, api.OK, recs("1 1: append 1 5", "0 1: append 1 5", "0 2: register 5", "0 3: reserve 1", "1 1: append 1 5")},
	})
}

// longLog: as many records as there may be, of two hands, each of which asks all that it may.
func longLog() []api.Rec {
	var out []api.Rec
	for i := range 40 {
		k := i / 8 % 4
		if i == 32 {
			out = append(out, rec("0 33: reset 0"), rec("1 33: append 0 5"))
			continue
		}
		out = append(out, rec(fmt.Sprintf("0 %d: append %d %d", i+1, k, i)), rec(fmt.Sprintf("1 %d: write %d %d %d", i+1, k, 2*(i%8)+1, i)))
	}
	return out
}

func TestAsManyAsThereMayBe(t *testing.T) {
	l := longLog()
	if len(l) != 80 {
		t.Fatal(len(l))
	}
	// From command 33 on of both: it is reset, hand 1 writes a block, and hand 0 the others: hand 1 comes too early, or too late.
	try(t, "80", l, zones{"10000000", "01010101", "01010101", "01010101"})
	try(t, "79", l[:79], zones{"10000000", "01010101", "01010101", "01010101"})
	try(t, "65", l[:65], zones{"", "01010101", "01010101", "01010101"})
	try(t, "64", l[:64], zones{"01010101", "01010101", "01010101", "01010101"})
	try(t, "the last one writes", append(l[:79:79], rec("2 1: reset 2")), zones{"10000000", "01010101", "", "01010101"})
	try(t, "80 times the same one", slices.Repeat(recs("2 1: append 3 5 6"), 80), zones{"", "", "", "22"})
}

// What a world has done is a log, too, whether its power is on or not.
func TestOfAWorld(t *testing.T) {
	ask := func(who int, text string) api.Happening {
		return api.Happening{Kind: api.HAsk, Who: who, C: rec("0 1: " + text).C}
	}
	hear, crash := api.Happening{Kind: api.HHear}, api.Happening{Kind: api.HCrash}
	twice := api.Happening{Kind: api.HTwice}
	w, said, e := world.Run(world.New(), []api.Happening{ask(1, "append 1 5"), twice, hear, hear, ask(2, "write 1 1 6 7"), hear, hear, ask(0, "append 1 8"), crash})
	if e != api.OK || slices.ContainsFunc(said, func(e api.Errno) bool { return e != api.OK }) {
		t.Fatal(said, e)
	}
	l, e := story.Done(w)
	if e != api.OK {
		t.Fatal(e)
	}
	try(t, "world", l, zones{"", "122"})
}

// P12.2

// tale: a log that is right, and the hall that comes of it. In each write of it a block tells by itself whose it is: what is left over of it by three.
type tale struct {
	l []api.Rec
	h api.Hall
}

func newTale() tale { return tale{h: hall.New()} }

// marks: as many blocks as that, which tell whose they are.
func marks(who, many, from int) string {
	var out strings.Builder
	for i := range many {
		fmt.Fprintf(&out, " %d", (from+i)%333*3+who)
	}
	return out.String()
}

// writers: whose the blocks say that they are.
func writers(z api.Zone) []int {
	var l []int
	for _, v := range z.Data {
		l = append(l, v%3)
	}
	return l
}

// then: s, once r is done, too. All that is promised must hold then.
func (s tale) then(t *testing.T, r api.Rec) tale {
	t.Helper()
	h, a, e := hall.Next(s.h, r)
	if e != api.OK {
		t.Fatalf("%v behind %v: %d", r, s.l, e)
	}
	next := tale{l: append(slices.Clone(s.l), r), h: h}
	might, e := book.May(s.h.D.B, r.Who, true)
	if e != api.OK {
		t.Fatal(e)
	}
	for k, z := range h.D.Zones {
		elder, now := owners(t, s.l, k), owners(t, next.l, k)
		if !slices.Equal(now, writers(z)) {
			t.Fatalf("zone %d is %v, of %v, by %v", k, z, now, next.l)
		}
		want := append(elder, s.added(r, a, k)...)
		if s.isNew(r) && r.C.Kind == api.CReset && r.C.Z == k && a.E == api.OK {
			want = nil
		}
		if !slices.Equal(now, want) {
			t.Fatalf("zone %d is of %v, want %v, by %v", k, now, want, next.l)
		}
		if len(now) > len(elder) && !might {
			t.Fatalf("hand %d mightn't write zone %d: %v", r.Who, k, next.l)
		}
	}
	return next
}

// isNew: is r not the last one of its hand, come again?
func (s tale) isNew(r api.Rec) bool { return r.Seq == s.h.Last[r.Who].Seq+1 }

// added: whose the blocks are that r, which was answered by a, wrote in zone k.
func (s tale) added(r api.Rec, a api.Answer, k int) []int {
	writes := r.C.Kind == api.CAppend || r.C.Kind == api.CWrite
	if !writes || !s.isNew(r) || r.C.Z != k || a.E != api.OK {
		return nil
	}
	return slices.Repeat([]int{r.Who}, len(r.C.Data))
}

func owners(t *testing.T, l []api.Rec, k int) []int {
	t.Helper()
	out, e := tally.Owners(l, k)
	if e != api.OK {
		t.Fatalf("%v, zone %d: %d", l, k, e)
	}
	return out
}

// by: who asks this as the next command; again: as the last one, once more.
func (s tale) by(who int, text string) api.Rec {
	return rec(fmt.Sprintf("%d %d: %s", who, s.h.Last[who].Seq+1, text))
}

func (s tale) again(who int, text string) api.Rec {
	return rec(fmt.Sprintf("%d %d: %s", who, max(1, s.h.Last[who].Seq), text))
}

// choices: what may be done next, in a play of few zones.
func choices(s tale, zone int) []api.Rec {
	n := 9 * len(s.l)
	z := fmt.Sprint(" ", zone)
	return []api.Rec{
		s.by(0, "append"+z+marks(0, 1, n)),
		s.by(1, "append"+z+marks(1, 2, n)),
		s.by(2, "write"+z+" 1"+marks(2, 7, n)),
		s.by(0, "append 2"+marks(0, 8, n)),
		s.by(0, "reset"+z),
		s.by(1, "finish"+z),
		s.by(1, "register 5"),
		s.by(1, "reserve 1"),
		s.again(0, "append"+z+marks(0, 3, n)),
		s.again(1, "reset"+z),
	}
}

// Commands in every order, up to five of them.
func TestCommandsInEveryOrder(t *testing.T) {
	for first := range choices(newTale(), 1) {
		t.Run(fmt.Sprint("from ", first), func(t *testing.T) {
			t.Parallel()
			s := newTale()
			everyOrder(t, s.then(t, choices(s, 1)[first]), 4)
		})
	}
}

func everyOrder(t *testing.T, s tale, left int) {
	if left == 0 {
		return
	}
	for _, r := range choices(s, 1) {
		everyOrder(t, s.then(t, r), left-1)
	}
}

// picks: a way to pick numbers that look like any, the same ones each time.
func picks(seed uint32) func(n int) int {
	return func(n int) int {
		seed = seed*1664525 + 1013904223
		return int(seed>>16) % n
	}
}

// anything that may be asked, done or refused, or come again.
func anything(s tale, pick func(int) int) api.Rec {
	who, k, n := pick(3), pick(5), 4*len(s.l)
	z := fmt.Sprint(" ", k)
	at := 0
	if k < len(s.h.D.Zones) {
		at = len(s.h.D.Zones[k].Data)
	}
	texts := []string{
		"append" + z + marks(who, 1, n), "append" + z + marks(who, 2, n), "append" + z + marks(who, 4, n),
		"write" + z + fmt.Sprint(" ", at) + marks(who, 1, n), "write" + z + fmt.Sprint(" ", at) + marks(who, 3, n), "write" + z + " 2" + marks(who, 2, n),
		"read" + z + " 0 1", "open" + z, "close" + z, "finish" + z, "reset" + z, "reset" + z,
		fmt.Sprint("register ", pick(3)), "register 1", fmt.Sprint("reserve ", 1+pick(4)), "release", "preempt 1", "clear",
	}
	text := texts[pick(len(texts))]
	if s.h.Last[who].Seq == 40 || pick(6) == 0 {
		return s.again(who, text)
	}
	return s.by(who, text)
}

// Long logs, till there are as many records as may be.
func TestLongLogs(t *testing.T) {
	for seed := range uint32(60) {
		t.Run(fmt.Sprint("from ", seed), func(t *testing.T) {
			t.Parallel()
			s, pick := newTale(), picks(seed*1009)
			for range 80 {
				s = s.then(t, anything(s, pick))
			}
		})
	}
}
