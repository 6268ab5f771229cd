package story_test

import (
	"slices"
	"strings"
	"testing"

	"quayhand/api"
	"quayhand/hall"
	"quayhand/story"
	"quayhand/world"
)

// fault: what is done to a world, and what is wrong with it then.
type fault struct {
	name  string
	spoil func(w *api.World)
	want  api.Errno
}

func safe(text string) func(w *api.World) {
	return func(w *api.World) { w.D.Safe = []byte(text) }
}

func wait(text string) func(w *api.World) {
	return func(w *api.World) { w.D.Wait = []byte(text) }
}

func mailAt(n int, m api.Mail) func(w *api.World) {
	return func(w *api.World) { w.Mail[n] = m }
}

func handAt(who int, h api.Hand) func(w *api.World) {
	return func(w *api.World) { w.Hand[who] = h }
}

// parts of any world, in the order in which what is wrong with them is told, with faults of each.
func parts() [][]fault {
	right := command("clear")
	return [][]fault{
		{
			{"no hands", func(w *api.World) { w.Hand = nil }, api.ErrForm},
			{"one hand more", func(w *api.World) { w.Hand = append(w.Hand, api.Hand{}) }, api.ErrForm},
		},
		{{"one mail more than may be", func(w *api.World) { w.Mail = slices.Repeat(w.Mail[2:], 31) }, api.ErrMany}},
		{
			{"mail of no hand", mailAt(0, api.Mail{Who: 3, Seq: 1, C: right}), api.ErrRange},
			{"mail without a number", mailAt(0, api.Mail{C: right}), api.ErrRange},
			{"mail back that has a command", mailAt(0, api.Mail{Back: true, Seq: 1, C: right}), api.ErrForm},
			{"mail back that has too much data", mailAt(0, api.Mail{Back: true, Seq: 1, A: read(make([]int, 9)...)}), api.ErrMany},
			{"mail that has an answer", mailAt(0, api.Mail{Seq: 1, C: right, A: wrote(1)}), api.ErrForm},
			{"mail that has a wrong command", mailAt(0, api.Mail{Seq: 1, C: api.Cmd{Kind: api.COpen, Z: 1000}}), api.ErrRange},
		},
		{
			{"the second mail is of no hand", mailAt(1, api.Mail{Who: -1, Seq: 1, C: right}), api.ErrRange},
			{"the second mail has no command", mailAt(1, api.Mail{Seq: 1}), api.ErrForm},
		},
		{
			{"torn", safe("0 1: clear\n0 2: clear"), api.ErrTorn},
			{"no record", safe("0 1: clear\nstop\n"), api.ErrText},
			{"an empty line", safe("\n"), api.ErrText},
			{"no such hand", safe("3 1: clear\n"), api.ErrRange},
			{"too much data", safe("0 1: append 1 1 2 3 4 5 6 7 8 9\n"), api.ErrMany},
			{"too many records", safe(strings.Repeat("0 1: clear\n", 81)), api.ErrMany},
			{"too many bytes wait", wait(strings.Repeat("x", 60001)), api.ErrMany},
		},
	}
}

// upParts: those of a world that is up. offParts: those of one that isn't.
func upParts() [][]fault {
	return append(parts(), []fault{
		{"a byte waits", wait("x"), api.ErrForm},
		{"a record waits", wait("0 3: clear\n"), api.ErrForm},
	}, []fault{
		{"too early", safe("0 2: clear\n"), api.ErrLate},
		{"too late", safe("0 1: clear\n0 2: clear\n0 1: clear\n"), api.ErrLate},
	}, []fault{
		{"a new hall", func(w *api.World) { w.H = hall.New() }, api.ErrForm},
		{"no hall", func(w *api.World) { w.H = api.Hall{} }, api.ErrForm},
		{"a number that may not be", func(w *api.World) { w.H.Last[2].Seq = 41 }, api.ErrForm},
		{"a block more", func(w *api.World) { w.H.D.Zones[1].Data = append(w.H.D.Zones[1].Data, 5) }, api.ErrForm},
		{"another record", safe("1 1: clear\n"), api.ErrForm},
	}, handFaults())
}

func offParts() [][]fault {
	return append(parts(), []fault{
		{"no hall", func(w *api.World) { w.H = api.Hall{} }, api.ErrForm},
		{"a key", func(w *api.World) { w.H.D.B.Keys[0] = 1 }, api.ErrForm},
		{"a hall that knows of what was done", func(w *api.World) { w.H = up("0 1: append 1 5\n").H }, api.ErrForm},
	}, handFaults())
}

func handFaults() []fault {
	return []fault{
		{"a number", handAt(2, api.Hand{Seq: 41}), api.ErrRange},
		{"a number without an answer", handAt(2, api.Hand{Seq: 1}), api.ErrForm},
		{"it waits for nothing", handAt(2, api.Hand{Seq: 1, Waits: true}), api.ErrForm},
		{"it waits for too much", handAt(2, api.Hand{Seq: 1, Waits: true, C: api.Cmd{Kind: api.CAppend, Data: make([]int, 9)}}), api.ErrMany},
		{"a wrong answer", handAt(2, api.Hand{Seq: 1, Got: []api.Answer{wrote(8)}}), api.ErrRange},
	}
}

// withMail: w, in which a hand waits, and mail is on its way, there and back.
func withMail(w api.World) api.World {
	c := command("append 1 5 6")
	w.Hand[0] = api.Hand{Seq: 3, Waits: true, C: c, Got: []api.Answer{wrote(0), fail(api.ErrLate)}}
	w.Mail = []api.Mail{{Who: 0, Seq: 3, C: c}, {Back: true, Who: 1, Seq: 1, A: wrote(2)}, {Who: 2, Seq: 1, C: command("clear")}}
	return w
}

func baseUp() api.World { return withMail(up("0 1: append 1 5 6\n1 1: append 1 7\n2 1: read 1 0 3\n")) }

// baseOff has records of which nothing can be told, safe and waiting: that is told last.
func baseOff() api.World { return withMail(off("0 2: append 1 5 6\n", "1 2: append 1 7\n")) }

// tryWrong: both tell this error, and nothing else; it is chapter 10's.
func tryWrong(t *testing.T, name string, w api.World, want api.Errno) {
	t.Helper()
	done, e := story.Done(w)
	told, f := story.Told(w)
	if e != want || f != want || len(done) != 0 || len(told) != 0 {
		t.Errorf("%s: %v %d, %v %d, want %d", name, done, e, told, f, want)
	}
	if g := world.Check(w); g != want {
		t.Errorf("%s: Check says %d, want %d", name, g, want)
	}
}

// Each fault, and of each two faults of two parts, the one of the part that is told first.
func tryFaults(t *testing.T, base func() api.World, l [][]fault) {
	t.Helper()
	for i := range l {
		for _, c := range l[i] {
			w := base()
			c.spoil(&w)
			tryWrong(t, c.name, w, c.want)
			for _, d := range slices.Concat(l[i+1:]...) {
				w := base()
				d.spoil(&w)
				c.spoil(&w)
				tryWrong(t, c.name+", and "+d.name, w, c.want)
			}
		}
	}
}

func TestWrongWorlds(t *testing.T) {
	tryWrong(t, "zero", api.World{}, api.ErrForm)
	tryWrong(t, "zero, but up", api.World{Up: true}, api.ErrForm)
	try(t, "nothing is wrong", baseUp(), records("0 1: append 1 5 6\n1 1: append 1 7\n2 1: read 1 0 3\n"), []api.Answer{wrote(0), wrote(2), read(5, 6, 7)}, api.OK)
	tryFaults(t, baseUp, upParts())
}

// The world's error comes ahead of what the hall refuses.
func TestWrongWorldsThatAreOff(t *testing.T) {
	try(t, "nothing is wrong", baseOff(), records("0 2: append 1 5 6\n1 2: append 1 7\n"), nil, api.ErrLate)
	tryFaults(t, baseOff, offParts())
}
