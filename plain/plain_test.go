package plain_test

import (
	"fmt"
	"slices"
	"testing"

	"quayhand/api"
	"quayhand/plain"
)

// full: a world in which each list has something, and no two values are alike.
func full() api.World {
	n := 0
	next := func() int { n++; return n }
	list := func() []int { return []int{next(), next(), next()}[:2] }
	answer := func() api.Answer { return api.Answer{E: api.Errno(next()), At: next(), Data: list()} }
	cmd := func() api.Cmd { return api.Cmd{Kind: next(), Z: next(), N: next(), At: next(), Data: list()} }
	zones := []api.Zone{{State: next(), Data: list()}, {State: next(), Data: list()}, {}}[:2]
	h := api.Hall{D: api.Desk{Zones: zones, B: api.Book{Keys: list(), Holder: next(), Type: next()}}}
	h.Last = []api.Last{{Seq: next(), A: answer()}, {Seq: next(), A: answer()}, {}}[:2]
	hands := []api.Hand{{Seq: next(), Waits: true, C: cmd(), Got: []api.Answer{answer(), answer()}}, {Seq: next(), C: cmd(), Got: []api.Answer{answer()}}}
	mail := []api.Mail{{Who: next(), Seq: next(), C: cmd(), A: answer()}, {Back: true, Who: next(), Seq: next(), C: cmd(), A: answer()}}
	return api.World{H: h, D: api.Disk{Safe: []byte("safe"), Wait: []byte("wait")}, Up: true, Hand: hands, Mail: mail}
}

// scribble writes over all lists of a world, and the room to spare behind them.
func scribble(w api.World) {
	all := [][]int{w.H.D.B.Keys}
	for i := range w.H.D.Zones {
		all = append(all, w.H.D.Zones[i].Data)
		w.H.D.Zones[i].State = -1
	}
	for i := range w.H.Last {
		all = append(all, w.H.Last[i].A.Data)
		w.H.Last[i].Seq = -1
	}
	for i := range w.Hand {
		for k := range w.Hand[i].Got {
			all = append(all, w.Hand[i].Got[k].Data)
			w.Hand[i].Got[k].At = -1
		}
		all = append(all, w.Hand[i].C.Data)
		w.Hand[i].Seq = -1
	}
	for i := range w.Mail {
		all = append(all, w.Mail[i].C.Data, w.Mail[i].A.Data)
		w.Mail[i].Seq = -1
	}
	for _, l := range all {
		for i := range l[:cap(l)] {
			l[:cap(l)][i] = -1
		}
	}
	w.D.Safe[0], w.D.Wait[0] = '?', '?'
}

// A copy has all that the world has; neither is changed by what is done to the other.
func TestCopyWorldHasAllAndSharesNothing(t *testing.T) {
	want := fmt.Sprint(full())
	w := full()
	a, b := plain.CopyWorld(w), plain.CopyWorld(w)
	if fmt.Sprint(a) != want {
		t.Errorf("%v, want %s", a, want)
	}
	scribble(a)
	if fmt.Sprint(w) != want || fmt.Sprint(b) != want {
		t.Errorf("written over: %v and %v, want %s", w, b, want)
	}
	scribble(w)
	if fmt.Sprint(b) != want {
		t.Errorf("written over: %v, want %s", b, want)
	}
}

func TestCopiesOfParts(t *testing.T) {
	w := full()
	was := fmt.Sprint(w.H.D.Zones, w.H.D.B, w.H.D, w.H, w.Hand[0], w.Hand[0].C, w.Mail[1], w.Mail[1].A, w.D)
	zones, book, desk, hall := plain.CopyZones(w.H.D.Zones), plain.CopyBook(w.H.D.B), plain.CopyDesk(w.H.D), plain.CopyHall(w.H)
	hand, cmd, mail, answer, disk := plain.CopyHand(w.Hand[0]), plain.CopyCmd(w.Hand[0].C), plain.CopyMail(w.Mail[1]), plain.CopyAnswer(w.Mail[1].A), plain.CopyDisk(w.D)
	scribble(w)
	if got := fmt.Sprint(zones, book, desk, hall, hand, cmd, mail, answer, disk); got != was {
		t.Errorf("%s, was %s", got, was)
	}
}

func TestCopiesOfNothing(t *testing.T) {
	if got, want := fmt.Sprint(plain.CopyWorld(api.World{})), fmt.Sprint(api.World{}); got != want {
		t.Errorf("%s, want %s", got, want)
	}
	if l := plain.CopyZones(nil); len(l) != 0 {
		t.Errorf("%v", l)
	}
}

func TestSameAnswer(t *testing.T) {
	l := []api.Answer{{}, {E: api.ErrKey}, {E: api.ErrTorn}, {At: 1}, {At: -1}, {Data: []int{0}}, {Data: []int{0, 0}}, {Data: []int{0, 1}}, {Data: []int{1, 0}}, {E: 1, At: 1, Data: []int{1}}}
	for i, a := range l {
		for k, b := range l {
			b.Data = slices.Clone(b.Data)
			if plain.SameAnswer(a, b) != (i == k) {
				t.Errorf("%v and %v", a, b)
			}
		}
	}
	if !plain.SameAnswer(api.Answer{}, api.Answer{Data: []int{}}) {
		t.Error("nil and empty")
	}
}
