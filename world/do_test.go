package world_test

import (
	"fmt"
	"math"
	"slices"
	"strings"
	"testing"

	"quayhand/api"
	"quayhand/disk"
	"quayhand/hall"
	"quayhand/world"
)

// P10.2

// numbers: odd ones, and those about what there may be of hands and mail.
func numbers() []int {
	out := []int{math.MinInt, math.MinInt + 1, -1000, 1000, math.MaxInt - 1, math.MaxInt}
	for n := -3; n <= 33; n++ {
		out = append(out, n)
	}
	return out
}

func TestDoSaysTheWorldsErrorFirst(t *testing.T) {
	l := []api.Happening{{}, {Kind: 8}, {Kind: -1}, ask(0, "clear"), ask(1, "clear"), ask(3, "clear"), {Kind: api.HAsk}, again(0), again(1), again(-1), hear(0), hear(1), hear(99), twice(0), twice(2), twice(-1), lose(0), lose(99), crash(), boot()}
	for _, c := range wrongs() {
		for _, x := range l {
			w := base()
			c.spoil(&w)
			tryDo(t, c.name, w, x, api.World{}, c.want)
		}
	}
	for _, x := range l {
		tryDo(t, "zero", api.World{}, x, api.World{}, api.ErrForm)
	}
}

// Each kind that there isn't, whatever else the happening has.
func TestDoOfNoKind(t *testing.T) {
	for _, n := range worlds() {
		for _, kind := range append(numbers(), 0, 8, 9) {
			if kind >= api.HAsk && kind <= api.HBoot {
				continue
			}
			for _, x := range []api.Happening{{}, {Who: 3, N: 99}, {N: -1, C: api.Cmd{Kind: 77}}, ask(0, "append 1 5"), hear(0)} {
				x.Kind = kind
				tryDo(t, n.name, n.m.world(), x, api.World{}, api.ErrForm)
			}
		}
	}
}

// Each happening in each world: all hands and all mail that there is and that there isn't, each command.
func TestDoOfEachWorld(t *testing.T) {
	went := map[api.Errno]int{}
	for _, n := range worlds() {
		l := []api.Happening{crash(), boot()}
		for _, k := range numbers() {
			l = append(l, hear(k), twice(k), lose(k), again(k))
			for _, text := range texts[:3] {
				l = append(l, ask(k, text))
			}
		}
		for _, text := range texts {
			l = append(l, ask(0, text), ask(1, text), ask(2, text))
		}
		for _, x := range l {
			_, e := tryModel(t, n.name, n.m, x)
			went[e]++
		}
	}
	for _, e := range []api.Errno{api.OK, api.ErrWho, api.ErrLate, api.ErrMany} {
		if went[e] < 10 {
			t.Errorf("%d: %d times", e, went[e])
		}
	}
}

// What a kind doesn't speak of isn't asked for.
func TestDoOfWhatAKindDoesNotHave(t *testing.T) {
	for _, n := range worlds() {
		for _, x := range []api.Happening{hear(0), twice(0), lose(0), crash(), boot()} {
			y := x
			y.Who, y.C = -7, api.Cmd{Kind: 99, Z: -1, Data: many(20, -5)}
			if y.Kind == api.HCrash || y.Kind == api.HBoot {
				y.N = math.MinInt
			}
			a, e := world.Do(n.m.world(), x)
			tryDo(t, n.name, n.m.world(), y, a, e)
		}
		for who := range 3 {
			x := ask(who, "append 1 5 6")
			a, e := world.Do(n.m.world(), x)
			x.N = -5
			tryDo(t, n.name, n.m.world(), x, a, e)
			a, e = world.Do(n.m.world(), again(who))
			tryDo(t, n.name, n.m.world(), api.Happening{Kind: api.HAgain, Who: who, N: 99, C: api.Cmd{Kind: -1}}, a, e)
		}
	}
}

// P10.2: HAsk, HAgain

// That there is no such hand comes ahead of what is wrong with the command, and that ahead of whether the hand waits, or has asked all.
func TestAskErrorsAndWhichIsFirst(t *testing.T) {
	for _, n := range worlds() {
		for _, c := range wrongCmds() {
			for _, who := range numbers() {
				want := c.want
				if who < 0 || who > 2 {
					want = api.ErrWho
				}
				tryDo(t, n.name, n.m.world(), api.Happening{Kind: api.HAsk, Who: who, C: c.c}, api.World{}, want)
			}
		}
	}
	all := allAsked()
	tryDo(t, "it has asked all", all.world(), ask(1, "clear"), api.World{}, api.ErrMany)
	last := allAsked().world()
	last.Hand[1].Waits, last.Hand[1].C, last.Hand[1].Got = true, command("clear"), last.Hand[1].Got[:39]
	tryDo(t, "it waits for the last one", last, ask(1, "clear"), api.World{}, api.ErrLate)
	tryDo(t, "it doesn't wait", all.world(), again(1), api.World{}, api.ErrLate)
}

func TestAskAndAskAgain(t *testing.T) {
	w := world.New()
	w, e := world.Do(w, ask(1, "append 1 5"))
	if e != api.OK || !w.Hand[1].Waits || w.Hand[1].Seq != 1 || w.Hand[0].Seq != 0 || len(w.D.Safe) != 0 {
		t.Fatalf("%v %d", w, e)
	}
	want := []api.Mail{there(1, 1, "append 1 5")}
	for n := 1; n < 35; n++ {
		if !slices.EqualFunc(w.Mail, want, sameMail) {
			t.Fatalf("asked %d times: %v", n, w.Mail)
		}
		hands := fmt.Sprint(w.Hand)
		if w, e = world.Do(w, again(1)); e != api.OK || fmt.Sprint(w.Hand) != hands {
			t.Fatalf("%v %d, was %s", w, e, hands)
		}
		if n < 30 {
			want = append(want, want[0])
		}
	}
	if w, e = world.Do(w, ask(2, "clear")); e != api.OK || !w.Hand[2].Waits || !slices.EqualFunc(w.Mail, want, sameMail) {
		t.Fatalf("there is no room: %v %d", w, e)
	}
	tryDo(t, "hand 0 doesn't wait", w, again(0), api.World{}, api.ErrLate)
}

// P10.2: HHear, HTwice, HLose

// mailsOf: the mail of a world must be these.
func mailsOf(t *testing.T, name string, w api.World, want ...api.Mail) {
	t.Helper()
	if !slices.EqualFunc(w.Mail, want, sameMail) {
		t.Errorf("%s: %v, want %v", name, w.Mail, want)
	}
}

// run lets all of these happen; none of them may have an error.
func run(t *testing.T, w api.World, l ...api.Happening) api.World {
	t.Helper()
	for i, x := range l {
		next, e := world.Do(w, x)
		if e != api.OK {
			t.Fatalf("%d: %v: %d", i, x, e)
		}
		w = next
	}
	return w
}

// What comes goes from its place, an answer goes to the end.
func TestMailKeepsItsOrder(t *testing.T) {
	a, b, c := there(0, 1, "append 1 5"), there(1, 1, "append 1 6 7"), there(2, 1, "read 1 0 1")
	w := run(t, world.New(), ask(0, "append 1 5"), ask(1, "append 1 6 7"), ask(2, "read 1 0 1"))
	mailsOf(t, "asked", w, a, b, c)
	mailsOf(t, "the first is lost", run(t, w, lose(0)), b, c)
	mailsOf(t, "the second is lost", run(t, w, lose(1)), a, c)
	mailsOf(t, "the last is lost", run(t, w, lose(2)), a, b)
	mailsOf(t, "the first comes", run(t, w, hear(0)), b, c, back(0, 1, wrote(0)))
	mailsOf(t, "the second comes", run(t, w, hear(1)), a, c, back(1, 1, wrote(0)))
	mailsOf(t, "the last comes", run(t, w, hear(2)), a, b, back(2, 1, fail(api.ErrLate)))
	mailsOf(t, "the second comes, and again", run(t, w, twice(1)), a, b, c, back(1, 1, wrote(0)))
	w = run(t, w, hear(1), hear(0), twice(0))
	mailsOf(t, "all have come", w, c, back(1, 1, wrote(0)), back(0, 1, wrote(2)), back(2, 1, read(6)))
	heard := run(t, w, hear(2))
	mailsOf(t, "an answer is heard", heard, c, back(1, 1, wrote(0)), back(2, 1, read(6)))
	if !slices.EqualFunc(heard.Hand[0].Got, []api.Answer{wrote(2)}, sameAnswer) || !heard.Hand[1].Waits {
		t.Errorf("%v", heard.Hand)
	}
	again := run(t, w, twice(2))
	mailsOf(t, "an answer is heard, and comes again", again, c, back(1, 1, wrote(0)), back(0, 1, wrote(2)), back(2, 1, read(6)))
	once := run(t, again, hear(2))
	if !slices.EqualFunc(once.Hand[0].Got, []api.Answer{wrote(2)}, sameAnswer) || once.Hand[0].Waits {
		t.Errorf("%v", once.Hand)
	}
}

// A command is done once, however often it comes; it is answered each time as it was.
func TestWhatComesAgainIsDoneOnce(t *testing.T) {
	w := run(t, world.New(), ask(0, "append 1 5"), twice(0), ask(1, "append 1 6"), hear(2))
	before := w
	for n := range 20 {
		w = run(t, w, twice(0))
		if m := w.Mail[len(w.Mail)-1]; !sameMail(m, back(0, 1, wrote(0))) || len(w.Mail) != 4+n {
			t.Fatalf("%v", w.Mail)
		}
	}
	w.Mail = before.Mail
	if !alike(w, before) || !slices.Equal(w.H.D.Zones[1].Data, []int{5, 6}) {
		t.Errorf("%v, was %v", w, before)
	}
	if got, want := string(w.D.Safe), "0 1: append 1 5\n1 1: append 1 6\n"; got != want {
		t.Errorf("%q, want %q", got, want)
	}
}

// Mail that the hall can't take has come all the same: it is gone, nothing else changes, and there is no error.
func TestMailOutOfTurn(t *testing.T) {
	w := run(t, world.New(), ask(0, "append 1 5"), hear(0), hear(0), ask(0, "append 1 6"), hear(0), hear(0))
	for _, c := range []struct {
		name string
		m    api.Mail
	}{
		{"long past", there(0, 1, "append 1 5")},
		{"too early", there(0, 4, "append 1 5")},
		{"far too early", there(0, 40, "append 1 5")},
		{"the first one is to come yet", there(1, 2, "append 1 5")},
		{"the last of all", there(2, 40, "clear")},
	} {
		v := w
		v.Mail = []api.Mail{back(2, 7, wrote(1)), c.m, there(2, 1, "clear")}
		want := w
		want.Mail = []api.Mail{back(2, 7, wrote(1)), there(2, 1, "clear")}
		tryDo(t, c.name, v, hear(1), want, api.OK)
		tryDo(t, c.name, v, lose(1), want, api.OK)
		tryDo(t, c.name, v, twice(1), v, api.OK)
	}
	v := w
	v.Mail = []api.Mail{there(0, 2, "reset 1")} // the number alone says which one it is
	want := w
	want.Mail = []api.Mail{back(0, 2, wrote(1))}
	tryDo(t, "another command by the last number", v, hear(0), want, api.OK)
	v.Mail = []api.Mail{there(1, 1, "reset 1")} // which hand 1 never asked
	tryDo(t, "a command in turn", v, hear(0), done(w, "1 1: reset 1\n", api.Answer{}), api.OK)
}

// done: w, which is up, once its hall has done what this line tells, and sent this answer; there is no other mail.
func done(w api.World, line string, a api.Answer) api.World {
	l := recordsOf(string(w.D.Safe) + line)
	h, e := hall.Replay(l)
	if e != api.OK {
		panic(fmt.Sprint(line, ": ", e))
	}
	r := l[len(l)-1]
	w.H, w.D, w.Mail = h, api.Disk{Safe: lines(l)}, []api.Mail{back(r.Who, r.Seq, a)}
	return w
}

// Answers that come early, late or again change nothing; the mail has come all the same.
func TestAnswersOutOfTurn(t *testing.T) {
	w := run(t, world.New(), ask(0, "append 1 5"), hear(0), hear(0), ask(0, "append 1 6"))
	for who := range 3 {
		for seq := 1; seq <= 40; seq++ {
			for _, a := range []api.Answer{{}, wrote(7), read(1, 2), fail(api.ErrTorn)} {
				v, want := w, w
				v.Mail, want.Mail = []api.Mail{back(who, seq, a)}, nil
				want.Hand = slices.Clone(w.Hand)
				if who == 0 && seq == 2 {
					want.Hand[0] = api.Hand{Seq: 2, Got: []api.Answer{wrote(0), a}}
				}
				tryDo(t, "an answer", v, hear(0), want, api.OK)
				off(&v)
				off(&want)
				tryDo(t, "an answer, and the power is off", v, hear(0), want, api.OK)
				want.Mail = v.Mail
				tryDo(t, "an answer, and again", v, twice(0), want, api.OK)
			}
		}
	}
}

// Where there is as much mail as there may be, what is sent is lost; what goes makes room.
func TestAsMuchMailAsThereMayBe(t *testing.T) {
	for n := 27; n <= 30; n++ {
		w := run(t, world.New(), ask(0, "append 1 5"))
		for range n - 1 {
			w = run(t, w, again(0))
		}
		if len(w.Mail) != n {
			t.Fatalf("%d mails, want %d", len(w.Mail), n)
		}
		rest := w.Mail[1:]
		heard := run(t, w, hear(0))
		mailsOf(t, "it goes, and there is room", heard, append(slices.Clone(rest), back(0, 1, wrote(0)))...)
		want := slices.Clone(w.Mail)
		asked := slices.Clone(w.Mail)
		if n < 30 {
			want = append(want, back(0, 1, wrote(0)))
			asked = append(asked, there(1, 1, "clear"))
		}
		again := run(t, w, twice(0))
		mailsOf(t, "it stays", again, want...)
		if len(again.H.D.Zones[1].Data) != 1 || string(again.D.Safe) != "0 1: append 1 5\n" {
			t.Errorf("it is done, though the answer may be lost: %v", again)
		}
		one := run(t, w, ask(1, "clear"))
		mailsOf(t, "one more asks", one, asked...)
		if !one.Hand[1].Waits {
			t.Errorf("it waits, though the mail may be lost: %v", one.Hand)
		}
	}
}

// P10.2: HCrash, HBoot

// The power goes and comes again: nothing is changed by that, wherever it happens.
func TestThePowerGoesAndComesAgain(t *testing.T) {
	for _, n := range upWorlds() {
		w := n.m.world()
		want := w
		want.Up, want.H = false, hall.New()
		tryDo(t, n.name, w, crash(), want, api.OK)
		tryDo(t, n.name, w, boot(), api.World{}, api.ErrLate)
		tryDo(t, n.name, want, crash(), api.World{}, api.ErrLate)
		tryDo(t, n.name, want, boot(), w, api.OK)
	}
}

// recordsOf a text of lines; all of them must be right.
func recordsOf(text string) []api.Rec {
	_, l, e := disk.Recover(api.Disk{Safe: []byte(text)})
	if e != api.OK {
		panic(fmt.Sprintf("%q: %d", text, e))
	}
	return l
}

// made: a world whose power was off, and whose disk had these lines, once it is up; all else of it is as in w.
func made(w api.World, text string) api.World {
	h, e := hall.Replay(recordsOf(text))
	if e != api.OK {
		panic(fmt.Sprintf("%q: %d", text, e))
	}
	w.H, w.D, w.Up = h, api.Disk{Safe: []byte(text)}, true
	return w
}

// Whatever waits on a disk: its whole lines are done, the rest of it is gone.
func TestBootOfWhatWaits(t *testing.T) {
	const text = "0 1: append 1 5 6\n1 1: append 1 7\n1 1: append 1 7\n0 2: register 5\n2 1: read 1 0 3\n"
	for kept := range len(text) + 1 {
		whole := strings.LastIndex(text[:kept], "\n") + 1
		for _, rest := range []string{"", "x", "\n", "0 3: clear", "no record\n0 3: clear\n", "3 1: clear\n", "0 3: append 1\n", "\xff\xfe\n"} {
			for safe := 0; safe <= kept; safe = strings.Index(text[safe:]+"\n", "\n") + safe + 1 {
				w := base()
				off(&w)
				if kept > whole && rest != "" {
					continue // what is torn isn't followed by anything: what is behind it would mend it
				}
				w.D = api.Disk{Safe: []byte(text[:safe]), Wait: []byte(text[safe:kept] + rest)}
				tryDo(t, fmt.Sprintf("%d safe, %d kept, %q", safe, kept, rest), w, boot(), made(w, text[:whole]), api.OK)
			}
		}
	}
}

// There are never more records than may be: the first ones of those that wait are taken.
func TestBootOfAsManyRecordsAsThereMayBe(t *testing.T) {
	const line, more = "0 1: append 1 5\n", "1 1: append 1 6\n"
	for safe := 70; safe <= 80; safe++ {
		for wait := range 15 {
			w := base()
			off(&w)
			w.D.Safe, w.D.Wait = []byte(strings.Repeat(line, safe)), []byte(strings.Repeat(more, wait)+"1 1: app")
			all := strings.Repeat(line, safe) + strings.Repeat(more, min(wait, 80-safe))
			tryDo(t, fmt.Sprint(safe, " safe, ", wait, " wait"), w, boot(), made(w, all), api.OK)
		}
	}
}

// Records that don't follow each other can't be done: the world stays off.
func TestBootOfRecordsOutOfTurn(t *testing.T) {
	for _, c := range []struct {
		name, safe, wait string
		want             api.Errno
	}{
		{"too early", "0 2: clear\n", "", api.ErrLate},
		{"too early, and it waits", "", "0 2: clear\n", api.ErrLate},
		{"one is missing", "0 1: clear\n0 3: clear\n", "", api.ErrLate},
		{"one is missing, and the second waits", "0 1: clear\n", "0 3: clear\n", api.ErrLate},
		{"too late", "0 1: clear\n0 2: clear\n", "0 1: clear\n", api.ErrLate},
		{"too early, and torn", "0 1: clear\n", "0 3: clear", api.OK},
		{"too early, behind what is no record", "0 1: clear\n", "clear\n0 3: clear\n", api.OK},
		{"the 81st is too early", strings.Repeat("0 1: clear\n", 80), "0 3: clear\n", api.OK},
		{"the 80th is too early", strings.Repeat("0 1: clear\n", 79), "0 3: clear\n", api.ErrLate},
	} {
		w := base()
		off(&w)
		w.D = api.Disk{Safe: []byte(c.safe), Wait: []byte(c.wait)}
		if c.want != api.OK {
			tryDo(t, c.name, w, boot(), api.World{}, c.want)
			continue
		}
		tryDo(t, c.name, w, boot(), made(w, c.safe), api.OK)
	}
}

// What waits on a disk, and is torn or out of turn, is kept as long as the power is off.
func TestOffKeepsWhatWaits(t *testing.T) {
	w := base()
	off(&w)
	w.D = api.Disk{Safe: []byte("0 2: clear\n"), Wait: []byte("0 9: cl\n?")}
	for _, x := range []api.Happening{again(0), again(1), lose(0), lose(1), hear(1), hear(2), twice(1), twice(2)} {
		next, e := world.Do(w, x)
		if e != api.OK || next.Up || !disk.Same(next.D, w.D) || !hall.Same(next.H, w.H) || world.Check(next) != api.OK {
			t.Errorf("%v: %v %d", x, next, e)
		}
	}
	for _, x := range []api.Happening{hear(0), hear(3), twice(0), twice(3), ask(0, "clear"), crash(), boot()} {
		tryDo(t, "off", w, x, api.World{}, api.ErrLate)
	}
}

// With as many records as there may be nothing new is done, nor answered; what was done last is answered again.
func TestNoRoomOnTheDisk(t *testing.T) {
	full := newModel().busy(80)
	w := full.world()
	for who := range 3 {
		for _, text := range texts {
			asked := run(t, w, ask(who, text))
			want := asked
			want.Mail = nil
			tryDo(t, "no room", asked, hear(0), want, api.OK)
			tryDo(t, "no room, and it comes again", asked, twice(0), asked, api.OK)
			tryDo(t, "no room, and lost", asked, lose(0), want, api.OK)
			booted := run(t, asked, crash(), boot())
			tryDo(t, "no room behind a boot either", booted, hear(0), want, api.OK)
		}
		last := len(full.told[who])
		v, want := w, w
		v.Mail = []api.Mail{there(who, last, "clear")}
		want.Mail = []api.Mail{back(who, last, full.told[who][last-1])}
		tryDo(t, "the last one again", v, hear(0), want, api.OK)
	}
	one := newModel().busy(79)
	w = run(t, one.world(), ask(0, "clear"), ask(1, "clear"))
	first := run(t, w, hear(0))
	if len(recordsOf(string(first.D.Safe))) != 80 || len(first.Mail) != 2 {
		t.Fatalf("there is room for one: %v", first)
	}
	second := run(t, first, hear(0))
	if !disk.Same(second.D, first.D) || !hall.Same(second.H, first.H) || len(second.Mail) != 1 {
		t.Errorf("there is room for one alone: %v", second)
	}
}

// P10.2: one after the other

// Happenings in every order, up to seven of them that have no error, against the model.
func TestHappeningsInEveryOrder(t *testing.T) {
	l := []api.Happening{ask(0, "append 1 5"), ask(1, "reset 1"), again(0), again(1), hear(0), hear(1), twice(0), lose(0), crash(), boot()}
	var grow func(m model, left int)
	grow = func(m model, left int) {
		if left == 0 {
			return
		}
		for _, x := range l {
			if next, e := tryModel(t, "every order", m, x); e == api.OK {
				grow(next, left-1)
			}
		}
	}
	grow(newModel(), 7)
}

// picks: a way to pick numbers that look like any, the same ones each time.
func picks(seed uint32) func(n int) int {
	return func(n int) int {
		seed = seed*1664525 + 1013904223
		return int(seed>>16) % n
	}
}
