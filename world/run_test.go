package world_test

import (
	"fmt"
	"slices"
	"testing"

	"quayhand/api"
	"quayhand/world"
)

// P10.3

// tryRun holds what is answered against what it must be; with an error all else is zero.
func tryRun(t *testing.T, name string, w api.World, l []api.Happening, want api.World, said []api.Errno, e api.Errno) {
	t.Helper()
	next, s, f := world.Run(w, l)
	if f != e || !slices.Equal(s, said) || !alike(next, want) {
		t.Fatalf("%s: %v at %v: %v %v %d, want %v %v %d", name, l, w, next, s, f, want, said, e)
	}
	if f == api.OK && world.Check(next) != api.OK {
		t.Fatalf("%s: %v at %v: what comes of it is wrong: %v", name, l, w, next)
	}
}

// anything: n happenings of each kind, right and wrong ones.
func anything(pick func(int) int, n int) []api.Happening {
	var out []api.Happening
	for range n {
		who, text := pick(3), texts[pick(len(texts))]
		all := []api.Happening{
			ask(who, text), ask(who, text), ask(who, text), again(who), hear(0), hear(0), hear(pick(4)), hear(pick(30)), hear(29),
			twice(pick(3)), lose(0), lose(pick(30)), crash(), boot(), boot(), boot(),
			{}, ask(3, text), again(-1), {Kind: 8}, {Kind: api.HAsk, Who: who, C: wrongCmds()[pick(len(wrongCmds()))].c},
		}
		out = append(out, all[pick(len(all))])
	}
	return out
}

// byModel: what must come of a script.
func byModel(m model, l []api.Happening) (model, []api.Errno) {
	var said []api.Errno
	for _, x := range l {
		next, e := m.after(x)
		if e == api.OK {
			m = next
		}
		said = append(said, e)
	}
	return m, said
}

func TestRunOfEachNumber(t *testing.T) {
	for _, n := range worlds() {
		w := n.m.world()
		tryRun(t, n.name, w, nil, w, nil, api.OK)
		tryRun(t, n.name, w, []api.Happening{}, w, nil, api.OK)
		long := anything(picks(3), 300)
		for _, many := range []int{1, 2, 17, 119, 120} {
			m, said := byModel(n.m, long[:many])
			tryRun(t, n.name, w, long[:many], m.world(), said, api.OK)
		}
		for _, many := range []int{121, 122, 300} {
			tryRun(t, n.name, w, long[:many], api.World{}, nil, api.ErrMany)
		}
	}
	long := anything(picks(5), 200)
	for many := range 200 {
		if many > 120 {
			tryRun(t, "too many", world.New(), long[:many], api.World{}, nil, api.ErrMany)
			continue
		}
		m, said := byModel(newModel(), long[:many])
		tryRun(t, "new", world.New(), long[:many], m.world(), said, api.OK)
	}
}

// The world's error comes ahead of there being too many, and that ahead of all that they say.
func TestRunErrorsAndWhichIsFirst(t *testing.T) {
	for _, c := range wrongs() {
		w := base()
		c.spoil(&w)
		for _, many := range []int{0, 1, 120, 121, 1000} {
			tryRun(t, c.name, w, make([]api.Happening, many), api.World{}, nil, c.want)
		}
	}
	tryRun(t, "all wrong", base(), make([]api.Happening, 120), base(), slices.Repeat([]api.Errno{api.ErrForm}, 120), api.OK)
	tryRun(t, "all wrong, one more", base(), make([]api.Happening, 121), api.World{}, nil, api.ErrMany)
}

// A script is what its happenings are one by one.
func TestRunIsDoOneByOne(t *testing.T) {
	for seed := range uint32(10) {
		w := world.New()
		for range 4 {
			l := anything(picks(seed), 60)
			one, said := w, []api.Errno{}
			for _, x := range l {
				next, e := world.Do(one, x)
				if e == api.OK {
					one = next
				}
				said = append(said, e)
			}
			tryRun(t, "one by one", w, l, one, said, api.OK)
			w = one
		}
	}
}

// What has an error changes nothing: without it the same comes of a script.
func TestRunWithoutWhatHasAnError(t *testing.T) {
	for i, n := range worlds() {
		w := n.m.world()
		l := anything(picks(uint32(i)), 120)
		next, said, e := world.Run(w, l)
		if e != api.OK || len(said) != 120 {
			t.Fatalf("%s: %v %d", n.name, said, e)
		}
		var right []api.Happening
		for k, x := range l {
			if said[k] == api.OK {
				right = append(right, x)
			}
		}
		if len(right) == 0 || len(right) == 120 {
			t.Errorf("%s: %d have no error", n.name, len(right))
		}
		tryRun(t, n.name, w, right, next, make([]api.Errno, len(right)), api.OK)
	}
}

// Long runs, till there are as many records as may be, against the model.
func TestLongRun(t *testing.T) {
	most := 0
	for seed := range uint32(30) {
		pick, m := picks(seed*77), newModel()
		for range 40 {
			l := anything(pick, 120)
			next, said := byModel(m, l)
			tryRun(t, fmt.Sprint("long run ", seed), m.world(), l, next.world(), said, api.OK)
			m = next
		}
		most = max(most, len(m.log))
	}
	if most != 80 {
		t.Errorf("at most %d were done", most)
	}
}

// A script that tells all: what is lost is asked again, what comes twice is done once, the power goes and comes again.
func TestAWholeScript(t *testing.T) {
	next, said, e := world.Run(world.New(), []api.Happening{
		ask(0, "append 1 5 6"), lose(0), again(0), twice(0), crash(), hear(0), again(0), boot(),
		hear(1), ask(0, "read 1 0 2"), hear(0), hear(0), hear(2), hear(0), hear(0), hear(0), hear(0), again(0), {},
	})
	want := []api.Errno{0, 0, 0, 0, 0, api.ErrLate, 0, 0, 0, 0, 0, 0, 0, 0, 0, 0, api.ErrWho, api.ErrLate, api.ErrForm}
	if e != api.OK || !slices.Equal(said, want) {
		t.Errorf("%v %d, want %v", said, e, want)
	}
	got := []api.Answer{wrote(0), read(5, 6)}
	if !slices.EqualFunc(next.Hand[0].Got, got, sameAnswer) || string(next.D.Safe) != "0 1: append 1 5 6\n0 2: read 1 0 2\n" || len(next.Mail) != 0 {
		t.Errorf("%v", next)
	}
}
