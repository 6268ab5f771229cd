package world_test

import (
	"bytes"
	"fmt"
	"slices"
	"testing"

	"quayhand/api"
	"quayhand/hall"
	"quayhand/world"
)

// P2 of the document: what is handed in is only read, what is answered is new memory.

// lists: all lists of numbers of a world, and these.
func lists(w api.World, more ...[]int) [][]int {
	out := append(more, w.H.D.B.Keys)
	for _, z := range w.H.D.Zones {
		out = append(out, z.Data)
	}
	for _, l := range w.H.Last {
		out = append(out, l.A.Data)
	}
	for _, h := range w.Hand {
		out = append(out, h.C.Data)
		for _, a := range h.Got {
			out = append(out, a.Data)
		}
	}
	for _, m := range w.Mail {
		out = append(out, m.C.Data, m.A.Data)
	}
	return out
}

// roomy: l, copied by one, and behind it room to spare, in which these stand.
func roomy[T any](l []T, one func(T) T, spare ...T) []T {
	out := make([]T, 0, len(l)+len(spare))
	for _, x := range l {
		out = append(out, one(x))
	}
	return append(out, spare...)[:len(l)]
}

func self[T any](x T) T { return x }

func roomyInts(l []int) []int { return roomy(l, self, 51, 52, 53) }

func roomyAnswer(a api.Answer) api.Answer {
	return api.Answer{E: a.E, At: a.At, Data: roomyInts(a.Data)}
}

func roomyCmd(c api.Cmd) api.Cmd {
	c.Data = roomyInts(c.Data)
	return c
}

// roomyWorld copies a world: there is room to spare behind each list of it.
func roomyWorld(w api.World) api.World {
	next := api.World{Up: w.Up, H: api.Hall{D: api.Desk{B: w.H.D.B}}}
	next.H.D.B.Keys = roomyInts(w.H.D.B.Keys)
	next.H.D.Zones = roomy(w.H.D.Zones, func(z api.Zone) api.Zone {
		return api.Zone{State: z.State, Data: roomyInts(z.Data)}
	}, api.Zone{State: api.Held})
	next.H.Last = roomy(w.H.Last, func(l api.Last) api.Last {
		return api.Last{Seq: l.Seq, A: roomyAnswer(l.A)}
	}, api.Last{Seq: 7})
	next.D = api.Disk{Safe: roomy(w.D.Safe, self, []byte("spare")...), Wait: roomy(w.D.Wait, self, []byte("more")...)}
	next.Hand = roomy(w.Hand, func(h api.Hand) api.Hand {
		return api.Hand{Seq: h.Seq, Waits: h.Waits, C: roomyCmd(h.C), Got: roomy(h.Got, roomyAnswer, wrote(6))}
	}, api.Hand{Seq: 8})
	next.Mail = roomy(w.Mail, func(m api.Mail) api.Mail {
		m.C, m.A = roomyCmd(m.C), roomyAnswer(m.A)
		return m
	}, there(2, 9, "clear"))
	return next
}

// withRoom tells a world, lists of numbers, and the room to spare behind all their lists.
func withRoom(w api.World, more ...[]int) string {
	s := fmt.Sprint(w, w.H.D.Zones[:cap(w.H.D.Zones)], w.H.Last[:cap(w.H.Last)], w.Hand[:cap(w.Hand)], w.Mail[:cap(w.Mail)])
	s += fmt.Sprint(w.D.Safe[:cap(w.D.Safe)], w.D.Wait[:cap(w.D.Wait)])
	for _, h := range w.Hand {
		s += fmt.Sprint(h.Got[:cap(h.Got)])
	}
	for _, l := range lists(w, more...) {
		s += fmt.Sprint(l[:cap(l)])
	}
	return s
}

// scribble writes over l, and the room to spare behind it.
func scribble[T any](l []T, x T) {
	l = l[:cap(l)]
	for i := range l {
		l[i] = x
	}
}

// scribbleWorld writes over all lists of a world.
func scribbleWorld(w api.World) {
	for _, l := range lists(w) {
		scribble(l, -9)
	}
	for _, h := range w.Hand {
		scribble(h.Got, wrote(-9))
	}
	scribble(w.H.D.Zones, api.Zone{State: -9})
	scribble(w.H.Last, api.Last{Seq: -9})
	scribble(w.D.Safe, '?')
	scribble(w.D.Wait, '?')
	scribble(w.Hand, api.Hand{Seq: -9})
	scribble(w.Mail, api.Mail{Seq: -9})
}

// tangled: do two lists of a world share memory? Each is written over by a number of its own, with the room to spare behind it; all must still stand there at the end. (Nothing of the world is left.)
func tangled(w api.World) bool {
	numbers := lists(w)
	for i, l := range numbers {
		scribble(l, -1-i)
	}
	for i, h := range w.Hand {
		scribble(h.Got, wrote(-1-i))
	}
	scribble(w.D.Safe, 's')
	scribble(w.D.Wait, 'w')
	for i, l := range numbers {
		if slices.ContainsFunc(l[:cap(l)], func(v int) bool { return v != -1-i }) {
			return true
		}
	}
	for i, h := range w.Hand {
		if slices.ContainsFunc(h.Got[:cap(h.Got)], func(a api.Answer) bool { return a.At != -1-i }) {
			return true
		}
	}
	return bytes.ContainsRune(w.D.Safe[:cap(w.D.Safe)], 'w')
}

// happenings of each kind, right and wrong ones, with data that has room to spare.
func happenings(data []int) []api.Happening {
	out := []api.Happening{
		{Kind: api.HAsk, Who: 0, C: api.Cmd{Kind: api.CAppend, Z: 1, Data: data}},
		{Kind: api.HAsk, Who: 2, C: api.Cmd{Kind: api.CWrite, Z: 2, Data: data}},
		{Kind: api.HAsk, Who: 1, C: api.Cmd{Kind: api.CClear, Data: data}},
		{Kind: api.HAsk, Who: 3, C: api.Cmd{Kind: api.CAppend, Data: data}},
		{Kind: 99, C: api.Cmd{Data: data}},
		again(0), again(1), again(2), crash(), boot(), hear(30), twice(-1),
	}
	for n := range 3 {
		out = append(out, hear(n), twice(n), lose(n))
	}
	return append(out, hear(29), twice(29), lose(29))
}

// eachCall goes through worlds, some of them wrong, and what may happen there; all of it has room to spare.
func eachCall(do func(name string, w api.World, x api.Happening)) {
	var l []api.World
	var names []string
	for _, n := range worlds() {
		l, names = append(l, n.m.world()), append(names, n.name)
	}
	for i, c := range append(rightOnes(), wrongs()...) {
		w := base()
		c.spoil(&w)
		if great := len(w.D.Safe)+len(w.D.Wait) > 9999; (i%9 == 0 || c.want == api.OK) && !great { // it takes long to tell great ones
			l, names = append(l, w), append(names, c.name)
		}
	}
	for i, w := range l {
		for k := range happenings(nil) {
			data := [][]int{{5}, many(8, 7), many(9, 1), {-1}}[(i+k)%4]
			do(names[i], roomyWorld(w), happenings(roomyInts(data))[k])
		}
	}
}

func TestHandedInIsOnlyReadAndAnsweredIsNew(t *testing.T) {
	eachCall(func(name string, w api.World, x api.Happening) {
		before := withRoom(w, x.C.Data)
		next, _ := world.Do(w, x)
		answered := fmt.Sprint(next)
		again, _ := world.Do(w, x)
		world.Check(w)
		world.Same(w, w)
		if after := withRoom(w, x.C.Data); after != before {
			t.Errorf("%s: %v: %s, was %s", name, x, after, before)
		}
		scribbleWorld(w)
		scribble(x.C.Data, -9)
		if fmt.Sprint(next) != answered {
			t.Errorf("%s: %v: what was handed in is kept: %v, was %s", name, x, next, answered)
		}
		scribbleWorld(next)
		if fmt.Sprint(again) != answered {
			t.Errorf("%s: %v: two answers share memory: %v, was %s", name, x, again, answered)
		}
	})
}

func TestListsOfAnAnswerShareNothing(t *testing.T) {
	eachCall(func(name string, w api.World, x api.Happening) {
		if next, _ := world.Do(w, x); tangled(next) {
			t.Errorf("%s: %v", name, x)
		}
	})
}

// scripts: none, a short one, and the longest that there may be, with data that has room to spare.
func scripts(data []int) [][]api.Happening {
	var long []api.Happening
	for len(long) < 120 {
		long = append(long, happenings(data)...)
	}
	return [][]api.Happening{nil, happenings(data)[:1], {crash()}, {twice(0), hear(0), boot()}, happenings(data), long[:120], long[:121]}
}

func TestRunHandedInIsOnlyReadAndAnsweredIsNew(t *testing.T) {
	for i, n := range worlds() {
		for k := range scripts(nil) {
			data := roomyInts([][]int{{5}, many(8, 7), many(9, 1)}[(i+k)%3])
			w, l := roomyWorld(n.m.world()), roomy(scripts(data)[k], self, boot(), crash())
			before := withRoom(w, data) + fmt.Sprint(l[:cap(l)])
			next, said, _ := world.Run(w, l)
			answered := fmt.Sprint(next, said)
			again, saidAgain, _ := world.Run(w, l)
			if after := withRoom(w, data) + fmt.Sprint(l[:cap(l)]); after != before {
				t.Errorf("%s: script %d: %s, was %s", n.name, k, after, before)
			}
			scribbleWorld(w)
			scribble(data, -9)
			scribble(l, api.Happening{Kind: -9})
			if fmt.Sprint(next, said) != answered {
				t.Errorf("%s: script %d: what was handed in is kept: %v, was %s", n.name, k, next, answered)
			}
			if tangled(next) {
				t.Errorf("%s: script %d: two lists share memory", n.name, k)
			}
			scribbleWorld(next)
			scribble(said, -9)
			if fmt.Sprint(again, saidAgain) != answered {
				t.Errorf("%s: script %d: two answers share memory: %v, was %s", n.name, k, again, answered)
			}
		}
	}
}

// What comes of one world twice is two worlds: neither is written over by the other.
func TestTwoWaysFromOneWorld(t *testing.T) {
	m := newModel().script(ask(0, "append 1 5"), twice(0), hear(1))
	w := roomyWorld(m.world())
	for _, x := range []api.Happening{ask(0, "append 1 6"), ask(0, "append 1 7"), ask(1, "append 2 8"), twice(0)} {
		for _, y := range []api.Happening{ask(2, "append 3 1"), ask(2, "append 3 2"), hear(0), crash()} {
			one, _ := world.Do(w, x)
			two, _ := world.Do(one, y)
			other, _ := world.Do(one, ask(2, "read 0 0 8"))
			want := m.script(x)
			if !alike(w, m.world()) || !alike(one, want.world()) || !alike(two, want.script(y).world()) || !alike(other, want.script(ask(2, "read 0 0 8")).world()) {
				t.Errorf("%v, then %v: %v, %v, %v, %v", x, y, w, one, two, other)
			}
		}
	}
}

// One list may be handed in for zones, keys, answers, hands, mail and commands.
func TestHandedInMayShare(t *testing.T) {
	list := []int{0, 0, 0, 80, 81}
	a := api.Answer{Data: list[:2]}
	h := api.Hand{Seq: 2, Waits: true, C: api.Cmd{Kind: api.CAppend, Data: list[:1]}, Got: []api.Answer{a}}
	m := api.Mail{Who: 1, Seq: 1, C: api.Cmd{Kind: api.CAppend, Z: 1, Data: list[1:3]}}
	w := api.World{H: hall.New(), Up: true, Hand: []api.Hand{h, h, h}, Mail: []api.Mail{m, back(0, 2, a), m, m}}
	w.H.D.B.Keys = list[:3]
	for i := range w.H.D.Zones {
		w.H.D.Zones[i].Data = list[:0]
	}
	w.Hand[1].Got = w.Hand[0].Got
	next, said, e := world.Run(w, []api.Happening{again(2), twice(0), hear(1), hear(0), ask(0, "append 1 7")})
	if e != api.OK || !slices.Equal(said, make([]api.Errno, 5)) || !slices.Equal(next.H.D.Zones[1].Data, []int{0, 0}) {
		t.Errorf("%v %v %d", next, said, e)
	}
	if tangled(next) {
		t.Error("two lists share memory")
	}
	scribbleWorld(next)
	if !slices.Equal(list, []int{0, 0, 0, 80, 81}) {
		t.Errorf("handed in: %v", list)
	}
}
