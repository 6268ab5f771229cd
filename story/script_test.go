package story_test

import (
	"fmt"
	"slices"
	"testing"

	"quayhand/api"
	"quayhand/cmd"
	"quayhand/desk"
	"quayhand/note"
	"quayhand/story"
	"quayhand/world"
)

// P11.2

func ask(who int, text string) api.Happening {
	return api.Happening{Kind: api.HAsk, Who: who, C: command(text)}
}

func again(who int) api.Happening { return api.Happening{Kind: api.HAgain, Who: who} }
func hear(n int) api.Happening    { return api.Happening{Kind: api.HHear, N: n} }
func twice(n int) api.Happening   { return api.Happening{Kind: api.HTwice, N: n} }
func lose(n int) api.Happening    { return api.Happening{Kind: api.HLose, N: n} }
func crash() api.Happening        { return api.Happening{Kind: api.HCrash} }
func boot() api.Happening         { return api.Happening{Kind: api.HBoot} }

// watched: a world from New on, and what somebody knows of it who sees what happens there, but neither its disk nor its hall: what was asked, and done, at a desk of his own, and what must have been told. lost: some mail may have been.
type watched struct {
	w     api.World
	d     api.Desk
	asked [api.MaxHands][]api.Cmd
	done  []api.Rec
	told  []api.Answer
	lost  bool
}

func newWatched() watched { return watched{w: world.New(), d: desk.New()} }

// with: l, and x behind it, in memory of its own.
func with[T any](l []T, x T) []T { return append(slices.Clone(l), x) }

// of: which of what was done are a hand's.
func (s watched) of(who int) []int {
	var out []int
	for i, r := range s.done {
		if r.Who == who {
			out = append(out, i)
		}
	}
	return out
}

// after: s, once x has happened, if it has no error.
func (s watched) after(x api.Happening) (watched, bool) {
	next, e := world.Do(s.w, x)
	if e != api.OK {
		return s, false
	}
	before := s.w
	s.w = next
	switch x.Kind {
	case api.HAsk:
		s.asked[x.Who] = with(s.asked[x.Who], x.C)
	case api.HHear, api.HTwice:
		s = s.came(before.Mail[x.N])
	}
	s.lost = s.lost || x.Kind == api.HLose || len(next.Mail) == 30
	return s, true
}

// came: s, once this mail has come.
func (s watched) came(m api.Mail) watched {
	if m.Back || m.Seq != len(s.of(m.Who))+1 || len(s.done) == 80 {
		return s
	}
	d, a, e := desk.Do(s.d, m.Who, m.C)
	if e != api.OK {
		panic(fmt.Sprint(m, ": ", e))
	}
	s.d, s.done, s.told = d, with(s.done, api.Rec{Who: m.Who, Seq: m.Seq, C: m.C}), with(s.told, a)
	return s
}

// follow: s, once all of these have happened; none of them may have an error.
func (s watched) follow(t *testing.T, l ...api.Happening) watched {
	t.Helper()
	for i, x := range l {
		next, ok := s.after(x)
		if !ok {
			t.Fatalf("%d: %v at %v", i, x, s.w)
		}
		s = next
	}
	return s
}

// holds: all that the story promises of s.
func (s watched) holds(t *testing.T) {
	t.Helper()
	try(t, "watched", s.w, s.done, s.told, api.OK)
	done, _ := story.Done(s.w)
	told, _ := story.Told(s.w)
	inOrder(t, s, done)
	gotWhatWasTold(t, s.w, done, told)
	stands(t, s.w, done, told)
}

// inOrder: commands of a hand are done in order, each once.
func inOrder(t *testing.T, s watched, done []api.Rec) {
	t.Helper()
	var many [api.MaxHands]int
	for _, r := range done {
		if r.Seq != many[r.Who]+1 || r.Seq > len(s.asked[r.Who]) || !cmd.Same(r.C, s.asked[r.Who][r.Seq-1]) {
			t.Fatalf("%v: out of order, or not asked, in %v", r, done)
		}
		many[r.Who]++
	}
}

// gotWhatWasTold: what a hand got is what it was told; who doesn't wait got all of it.
func gotWhatWasTold(t *testing.T, w api.World, done []api.Rec, told []api.Answer) {
	t.Helper()
	var of [api.MaxHands][]api.Answer
	for i, r := range done {
		of[r.Who] = append(of[r.Who], told[i])
	}
	for who, h := range w.Hand {
		if len(h.Got) > len(of[who]) || !slices.EqualFunc(h.Got, of[who][:len(h.Got)], sameAnswer) {
			t.Fatalf("hand %d got %v, was told %v", who, h.Got, of[who])
		}
		if left := len(of[who]) - len(h.Got); left > 1 || left == 1 && !h.Waits {
			t.Fatalf("hand %d got %v, was told %v, waits: %v", who, h.Got, of[who], h.Waits)
		}
	}
}

// stands: what was written stands where it was told, till its zone is reset.
func stands(t *testing.T, w api.World, done []api.Rec, told []api.Answer) {
	t.Helper()
	if !w.Up {
		next, e := world.Do(w, boot())
		if e != api.OK {
			t.Fatalf("boot: %d", e)
		}
		w = next
	}
	for i, r := range done {
		if r.C.Kind != api.CAppend && r.C.Kind != api.CWrite || told[i].E != api.OK || isReset(r.C.Z, done[i+1:], told[i+1:]) {
			continue
		}
		at, data := told[i].At, w.H.D.Zones[r.C.Z].Data
		if len(data) < at+len(r.C.Data) || !slices.Equal(data[at:at+len(r.C.Data)], r.C.Data) {
			t.Fatalf("%v was told %v, but there stands %v", r, told[i], data)
		}
	}
}

// isReset: is zone k, by these?
func isReset(k int, done []api.Rec, told []api.Answer) bool {
	for i, r := range done {
		if r.C.Kind == api.CReset && r.C.Z == k && told[i].E == api.OK {
			return true
		}
	}
	return false
}

// heard: s, once the power is on, and all that is on its way was heard.
func (s watched) heard(t *testing.T) watched {
	t.Helper()
	if !s.w.Up {
		s = s.follow(t, boot())
	}
	for range 100 {
		if len(s.w.Mail) == 0 {
			return s
		}
		s = s.follow(t, hear(0))
	}
	t.Fatalf("mail doesn't end: %v", s.w.Mail)
	return s
}

// nobodyWaits: where all is heard nobody waits, but who asked what there was no room for. What was lost must be asked again for that.
func (s watched) nobodyWaits(t *testing.T) {
	t.Helper()
	s = s.heard(t)
	for who, h := range s.w.Hand {
		if h.Waits && s.lost {
			s = s.follow(t, again(who)).heard(t)
		}
	}
	s.holds(t)
	for who, h := range s.w.Hand {
		unheard := len(s.of(who)) < len(s.asked[who])
		if h.Waits != unheard || unheard && len(s.done) < 80 {
			t.Fatalf("hand %d waits: %v; %v, done %v, asked %v", who, h.Waits, h, s.done, s.asked[who])
		}
	}
}

// Happenings in every order, up to six of them that have no error.
func TestHappeningsInEveryOrder(t *testing.T) {
	for name, l := range map[string][]api.Happening{
		"one zone":  {ask(0, "append 1 5"), ask(1, "reset 1"), again(0), again(1), hear(0), hear(1), twice(0), lose(0), crash(), boot()},
		"two write": {ask(0, "append 1 5 6"), ask(1, "write 1 0 7"), again(0), hear(0), hear(1), hear(2), twice(0), twice(1), crash(), boot()},
		"a read":    {ask(0, "append 1 5"), ask(0, "read 1 0 1"), again(0), hear(0), hear(1), hear(2), twice(0), twice(1), lose(1), crash(), boot()},
	} {
		t.Run(name, func(t *testing.T) {
			t.Parallel()
			everyOrder(t, newWatched(), l, 6)
		})
	}
}

func everyOrder(t *testing.T, s watched, l []api.Happening, left int) {
	s.holds(t)
	s.nobodyWaits(t)
	if left == 0 {
		return
	}
	for _, x := range l {
		if next, ok := s.after(x); ok {
			everyOrder(t, next, l, left-1)
		}
	}
}

// texts: commands of each kind, some of which are refused.
var texts = []string{
	"open 0", "open 4", "close 1", "finish 2", "reset 1", "reset 2", "reset 0", "append 1 5 6", "append 1 7", "append 0 1 2 3 4 5 6 7 999",
	"write 1 0 9", "write 1 2 9 8", "write 999 7 0", "read 0 0 0", "read 1 0 2", "read 1 1 7", "read 4 0 0",
	"register 0", "register 5", "register 10", "reserve 1", "reserve 2", "release", "preempt 5", "clear",
}

// picks: a way to pick numbers that look like any, the same ones each time.
func picks(seed uint32) func(n int) int {
	return func(n int) int {
		seed = seed*1664525 + 1013904223
		return int(seed>>16) % n
	}
}

// anything that may happen, right or wrong.
func anything(pick func(int) int) api.Happening {
	who, text := pick(3), texts[pick(len(texts))]
	all := []api.Happening{
		ask(who, text), ask(who, text), ask(who, text), ask(who, text), again(who), again(3), hear(0), hear(0), hear(0), hear(0), hear(1),
		hear(pick(30)), hear(-1), twice(0), twice(pick(30)), lose(0), lose(pick(30)), crash(), boot(), boot(), boot(), {}, {Kind: api.HAsk, Who: who},
	}
	return all[pick(len(all))]
}

// Long scripts, till there are as many records as may be, and behind that.
func TestLongScripts(t *testing.T) {
	for seed := range uint32(8) {
		t.Run(fmt.Sprint("from ", seed), func(t *testing.T) {
			t.Parallel()
			s, pick := newWatched(), picks(seed*1009)
			for i := range 3000 {
				if next, ok := s.after(anything(pick)); ok {
					s = next
				}
				if i%3 == 0 {
					s.holds(t)
				}
				if i%50 == 0 {
					s.nobodyWaits(t)
				}
			}
			if len(s.done) != 80 {
				t.Errorf("%d were done, that isn't as many as may be", len(s.done))
			}
		})
	}
}

// scenes: what two hands do from New on, where no mail is lost.
func scenes() [][]api.Happening {
	return [][]api.Happening{
		{ask(0, "append 1 5 6"), hear(0), hear(0), ask(0, "read 1 0 2"), hear(0), hear(0)},
		{ask(0, "append 1 5 6"), ask(1, "append 1 7"), hear(1), hear(0), hear(1), hear(0), ask(1, "reset 1"), hear(0), ask(0, "append 1 8"), hear(1), hear(0), hear(0)},
		{ask(0, "register 5"), hear(0), hear(0), ask(0, "reserve 2"), ask(1, "append 1 5"), hear(0), hear(0), hear(0), hear(0), ask(1, "read 1 0 0"), hear(0), hear(0), ask(0, "append 1 9"), hear(0), hear(0)},
		{ask(0, "append 2 1"), twice(0), twice(0), hear(1), ask(0, "append 2 2"), hear(0), hear(1), hear(0), hear(0)},
	}
}

// The power may go and come at any moments: nothing is changed by that, nor by what comes while it is off.
func TestThePowerAtAnyMoments(t *testing.T) {
	for n, l := range scenes() {
		want := newWatched().follow(t, l...)
		want.holds(t)
		want.nobodyWaits(t)
		for i := range len(l) + 1 {
			for k := i; k <= len(l); k++ {
				off := []api.Happening{crash(), boot()}
				s := newWatched().follow(t, slices.Concat(l[:i], off, l[i:k], off, l[k:])...)
				s.holds(t)
				if !world.Same(s.w, want.w) || !slices.EqualFunc(s.done, want.done, note.Same) || !slices.EqualFunc(s.told, want.told, sameAnswer) {
					t.Errorf("scene %d, at %d and %d: %v, want %v", n, i, k, s.w, want.w)
				}
			}
		}
	}
}

// Any mail may be lost, or come twice, or the power be off when it comes: what is asked again, till it is heard, is done once.
func TestAnyMailMayBeLost(t *testing.T) {
	commands := []string{"append 1 5", "append 1 6 7", "read 1 0 3"}
	told := []api.Answer{wrote(0), wrote(1), read(5, 6, 7)}
	for plan := range 5 * 5 * 5 * 5 * 5 * 5 {
		s, left := newWatched(), plan
		for _, text := range commands {
			s = s.follow(t, ask(0, text))
			for steps := 0; s.w.Hand[0].Waits; steps++ {
				if steps == 20 { // no plan has as many mishaps
					t.Fatalf("plan %d: it waits, however often it asks: %v", plan, s.w)
				}
				if len(s.w.Mail) == 0 {
					s = s.follow(t, again(0))
				}
				s = s.follow(t, mishap(left%5)...)
				if !s.w.Up {
					s = s.follow(t, boot())
				}
				left /= 5
			}
		}
		s.nobodyWaits(t)
		if !slices.EqualFunc(s.w.Hand[0].Got, told, sameAnswer) || !slices.EqualFunc(s.told, told, sameAnswer) {
			t.Fatalf("plan %d: got %v, told %v, want %v", plan, s.w.Hand[0].Got, s.told, told)
		}
	}
}

// mishap: what may come of the first mail.
func mishap(n int) []api.Happening {
	return [][]api.Happening{{hear(0)}, {lose(0)}, {twice(0)}, {crash(), lose(0)}, {crash(), boot(), hear(0)}}[n]
}

// What was written and answered is read where it was told, by another hand too, when the power was gone.
func TestWhatWasToldIsRead(t *testing.T) {
	s := newWatched().follow(t, ask(0, "append 1 5 6"), hear(0), lose(0), crash(), boot(), ask(1, "append 1 7"), hear(0), hear(0), crash(), again(0), boot(), hear(0), hear(0))
	s = s.follow(t, ask(2, "read 1 0 3"), hear(0), crash(), hear(0))
	s.holds(t)
	s.nobodyWaits(t)
	for who, want := range []api.Answer{wrote(0), wrote(2), read(5, 6, 7)} {
		if !slices.EqualFunc(s.w.Hand[who].Got, []api.Answer{want}, sameAnswer) {
			t.Errorf("hand %d got %v", who, s.w.Hand[who].Got)
		}
	}
	try(t, "off", s.w, records("0 1: append 1 5 6\n1 1: append 1 7\n2 1: read 1 0 3\n"), []api.Answer{wrote(0), wrote(2), read(5, 6, 7)}, api.OK)
}

// With as many records as there may be nothing more is done: who asks waits, and is told nothing.
func TestNoRoomForMore(t *testing.T) {
	s := newWatched()
	for i := range 80 {
		s = s.follow(t, ask(i%3, texts[i%len(texts)]), hear(0), hear(0))
	}
	for who := range 3 {
		s = s.follow(t, ask(who, "append 3 1"), hear(0), again(who), twice(0))
		s.holds(t)
	}
	s.nobodyWaits(t)
	if done, e := story.Done(s.w); len(done) != 80 || e != api.OK || len(s.w.Hand[2].Got) != 26 || !s.w.Hand[2].Waits {
		t.Errorf("%d are done, %d; %v", len(done), e, s.w.Hand[2])
	}
}
