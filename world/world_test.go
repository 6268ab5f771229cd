package world_test

import (
	"fmt"
	"slices"
	"testing"

	"quayhand/api"
	"quayhand/cmd"
	"quayhand/desk"
	"quayhand/disk"
	"quayhand/hall"
	"quayhand/hand"
	"quayhand/note"
	"quayhand/world"
)

// What all tests of the package share: happenings, a model of the world, and right worlds.

// command of a text; it must be a right one.
func command(text string) api.Cmd {
	c, e := cmd.Parse(text)
	if e != api.OK {
		panic(fmt.Sprint(text, ": ", e))
	}
	return c
}

func wrote(at int) api.Answer     { return api.Answer{At: at} }
func read(data ...int) api.Answer { return api.Answer{Data: data} }
func fail(e api.Errno) api.Answer { return api.Answer{E: e} }
func many(n, v int) []int         { return slices.Repeat([]int{v}, n) }

func ask(who int, text string) api.Happening {
	return api.Happening{Kind: api.HAsk, Who: who, C: command(text)}
}

func again(who int) api.Happening { return api.Happening{Kind: api.HAgain, Who: who} }
func hear(n int) api.Happening    { return api.Happening{Kind: api.HHear, N: n} }
func twice(n int) api.Happening   { return api.Happening{Kind: api.HTwice, N: n} }
func lose(n int) api.Happening    { return api.Happening{Kind: api.HLose, N: n} }
func crash() api.Happening        { return api.Happening{Kind: api.HCrash} }
func boot() api.Happening         { return api.Happening{Kind: api.HBoot} }

// there: mail of a command. back: mail of an answer.
func there(who, seq int, text string) api.Mail {
	return api.Mail{Who: who, Seq: seq, C: command(text)}
}

func back(who, seq int, a api.Answer) api.Mail {
	return api.Mail{Back: true, Who: who, Seq: seq, A: a}
}

func sameAnswer(a, b api.Answer) bool {
	return a.E == b.E && a.At == b.At && slices.Equal(a.Data, b.Data)
}

func sameMail(a, b api.Mail) bool {
	return a.Back == b.Back && a.Who == b.Who && a.Seq == b.Seq && cmd.Same(a.C, b.C) && sameAnswer(a.A, b.A)
}

// alike: are all fields of two worlds alike? (Told without the package that is tested.)
func alike(a, b api.World) bool {
	return hall.Same(a.H, b.H) && disk.Same(a.D, b.D) && a.Up == b.Up &&
		slices.EqualFunc(a.Hand, b.Hand, hand.Same) && slices.EqualFunc(a.Mail, b.Mail, sameMail)
}

// model: the desk, what was done at it and told of it (which the power can't take away), and all else that a world has.
type model struct {
	d     api.Desk
	log   []api.Rec
	told  [api.MaxHands][]api.Answer
	up    bool
	hands [api.MaxHands]api.Hand
	mail  []api.Mail
}

func newModel() model { return model{d: desk.New(), up: true} }

// with: l, and x behind it, in memory of its own.
func with[T any](l []T, x T) []T { return append(slices.Clone(l), x) }

// sent: m, once this was sent.
func (m model) sent(x api.Mail) model {
	if len(m.mail) < 30 {
		m.mail = with(m.mail, x)
	}
	return m
}

// after: m, once x has happened, or what is wrong with that.
func (m model) after(x api.Happening) (model, api.Errno) {
	switch x.Kind {
	case api.HAsk, api.HAgain:
		return m.asked(x)
	case api.HHear, api.HTwice, api.HLose:
		return m.carried(x)
	case api.HCrash, api.HBoot:
		if m.up != (x.Kind == api.HCrash) {
			return m, api.ErrLate
		}
		m.up = !m.up
		return m, api.OK
	}
	return m, api.ErrForm
}

func (m model) asked(x api.Happening) (model, api.Errno) {
	if x.Who < 0 || x.Who > 2 {
		return m, api.ErrWho
	}
	h := m.hands[x.Who]
	if x.Kind == api.HAgain {
		if !h.Waits {
			return m, api.ErrLate
		}
		return m.sent(api.Mail{Who: x.Who, Seq: h.Seq, C: h.C}), api.OK
	}
	if e := cmd.Check(x.C); e != api.OK {
		return m, e
	}
	if h.Waits {
		return m, api.ErrLate
	}
	if h.Seq == 40 {
		return m, api.ErrMany
	}
	m.hands[x.Who] = api.Hand{Seq: h.Seq + 1, Waits: true, C: x.C, Got: h.Got}
	return m.sent(api.Mail{Who: x.Who, Seq: h.Seq + 1, C: x.C}), api.OK
}

func (m model) carried(x api.Happening) (model, api.Errno) {
	if x.N < 0 || x.N >= len(m.mail) {
		return m, api.ErrWho
	}
	l := m.mail[x.N]
	if x.Kind != api.HLose && !l.Back && !m.up {
		return m, api.ErrLate
	}
	if x.Kind != api.HTwice {
		m.mail = slices.Concat(m.mail[:x.N], m.mail[x.N+1:])
	}
	if x.Kind == api.HLose {
		return m, api.OK
	}
	if l.Back {
		return m.heard(l), api.OK
	}
	return m.done(l), api.OK
}

func (m model) heard(l api.Mail) model {
	if h := m.hands[l.Who]; h.Waits && h.Seq == l.Seq {
		m.hands[l.Who] = api.Hand{Seq: h.Seq, Got: with(h.Got, l.A)}
	}
	return m
}

func (m model) done(l api.Mail) model {
	if l.Seq == len(m.told[l.Who])+1 && len(m.log) < 80 {
		d, a, e := desk.Do(m.d, l.Who, l.C)
		if e != api.OK {
			panic(fmt.Sprint(l, ": ", e))
		}
		m.d, m.log = d, with(m.log, api.Rec{Who: l.Who, Seq: l.Seq, C: l.C})
		m.told[l.Who] = with(m.told[l.Who], a)
	}
	if told := m.told[l.Who]; l.Seq == len(told) {
		return m.sent(api.Mail{Back: true, Who: l.Who, Seq: l.Seq, A: told[l.Seq-1]})
	}
	return m
}

// lines of these records, as a disk has them.
func lines(l []api.Rec) []byte {
	var out []byte
	for _, r := range l {
		told, e := note.Print(r)
		if e != api.OK {
			panic(fmt.Sprint(r, ": ", e))
		}
		out = append(out, told+"\n"...)
	}
	return out
}

func (m model) world() api.World {
	w := api.World{H: hall.New(), D: api.Disk{Safe: lines(m.log)}, Up: m.up, Hand: m.hands[:], Mail: m.mail}
	if !m.up {
		return w
	}
	w.H.D = m.d
	for who, l := range m.told {
		if len(l) > 0 {
			w.H.Last[who] = api.Last{Seq: len(l), A: l[len(l)-1]}
		}
	}
	return w
}

// script: m, once all of these have happened; none of them may have an error.
func (m model) script(l ...api.Happening) model {
	for i, x := range l {
		next, e := m.after(x)
		if e != api.OK {
			panic(fmt.Sprint(i, ": ", x, ": ", e))
		}
		m = next
	}
	return m
}

// texts: commands of each kind, some of which are refused.
var texts = []string{
	"open 0", "open 4", "close 1", "finish 2", "reset 1", "reset 999", "append 1 5 6", "append 1 7", "append 0 1 2 3 4 5 6 7 999",
	"write 1 0 9", "write 1 2 9 8", "write 999 7 0", "read 0 0 0", "read 1 0 2", "read 1 1 7", "read 4 0 0",
	"register 0", "register 5", "register 10", "reserve 1", "reserve 2", "release", "preempt 5", "clear",
}

// busy: m, in which no mail is on its way, once n commands were asked, done and heard, by each hand in turn.
func (m model) busy(n int) model {
	for i := range n {
		m = m.script(ask(i%3, texts[i%len(texts)]), hear(0), hear(0))
	}
	return m
}

// named: a right world, as a model of it.
type named struct {
	name string
	m    model
}

// upWorlds: worlds that are up, with hands that wait and that don't, with no mail, some and as much as there may be.
func upWorlds() []named {
	n := newModel()
	two := n.script(ask(0, "append 1 5 6"), ask(1, "append 1 7"))
	over := n.script(ask(0, "register 5"), hear(0), hear(0), ask(0, "reserve 2"), hear(0), hear(0), ask(1, "append 1 7"), hear(0))
	full := n.script(ask(1, "append 1 5 6"), twice(0), ask(0, "read 1 0 2"))
	for len(full.mail) < 30 {
		full = full.script(again(len(full.mail) % 2))
	}
	return []named{
		{"new", n},
		{"one asks", n.script(ask(0, "append 1 5 6"))},
		{"two ask", two},
		{"all ask", two.script(ask(2, "read 1 0 3"))},
		{"one is answered", two.script(hear(0))},
		{"two are answered", two.script(hear(1), hear(0))},
		{"mail comes twice, there and back", two.script(twice(0), twice(1), twice(3))},
		{"all is heard", two.script(hear(0), hear(0), hear(0), hear(0))},
		{"all is lost, and nothing done", two.script(lose(0), lose(0))},
		{"all is lost, but done", two.script(hear(0), hear(0), lose(0), lose(0))},
		{"asked again", two.script(again(0), again(1), again(0))},
		{"refused", over},
		{"refused, and heard", over.script(hear(0))},
		{"late mail of a command long done", two.script(twice(0), hear(2), ask(0, "append 1 8"), hear(2), hear(2))},
		{"a busy one", n.busy(24)},
		{"a busy one in which one asks", n.busy(31).script(ask(2, "append 3 4"))},
		{"as much mail as there may be", full},
		{"one mail less", full.script(lose(29))},
		{"as much mail, all there", full.script(lose(1), again(0))},
		{"as many records as there may be", n.busy(80)},
		{"one record less", n.busy(79).script(ask(0, "append 2 1"))},
		{"as many records, one asks, one asked ahead of that", n.busy(79).script(ask(2, "read 0 0 1"), twice(0), ask(1, "clear"))},
		{"a hand that asked all that it may", allAsked()},
	}
}

// allAsked: a world in which hand 1 has asked all that it may.
func allAsked() model {
	m := newModel()
	for i := range 40 {
		m = m.script(ask(1, texts[i%len(texts)]), hear(0), hear(0))
	}
	return m
}

// worlds: all of these, and what is left of them when the power goes.
func worlds() []named {
	out := upWorlds()
	for _, n := range upWorlds() {
		out = append(out, named{n.name + ", off", n.m.script(crash())})
	}
	return out
}

// The model's worlds are right, and no two of them alike.
func TestTheModelsWorldsAreRight(t *testing.T) {
	l := worlds()
	for i, n := range l {
		if e := world.Check(n.m.world()); e != api.OK {
			t.Errorf("%s: %d: %v", n.name, e, n.m.world())
		}
		for k, o := range l {
			if alike(n.m.world(), o.m.world()) != (i == k) {
				t.Errorf("%s and %s", n.name, o.name)
			}
		}
	}
}

// tryDo holds what is answered against what it must be; with an error all else is zero.
func tryDo(t *testing.T, name string, w api.World, x api.Happening, want api.World, e api.Errno) {
	t.Helper()
	next, f := world.Do(w, x)
	if f != e || !alike(next, want) {
		t.Fatalf("%s: %v at %v: %v %d, want %v %d", name, x, w, next, f, want, e)
	}
	if f == api.OK && world.Check(next) != api.OK {
		t.Fatalf("%s: %v at %v: what comes of it is wrong: %v", name, x, w, next)
	}
}

// tryModel lets x happen in the world of m, and answers the model that must come of it.
func tryModel(t *testing.T, name string, m model, x api.Happening) (model, api.Errno) {
	t.Helper()
	next, e := m.after(x)
	if e != api.OK {
		tryDo(t, name, m.world(), x, api.World{}, e)
		return m, e
	}
	tryDo(t, name, m.world(), x, next.world(), api.OK)
	return next, api.OK
}
