package tally_test

import (
	"slices"
	"testing"

	"quayhand/api"
	"quayhand/note"
	"quayhand/tally"
)

// P2 of the document: what is handed in is only read, what is answered is new memory.

// spare room that is left behind each list, in which something stands.
const spare = 5

// roomy copies l, with room to spare behind it and behind the lists in it.
func roomy(l []api.Rec) []api.Rec {
	out := slices.Concat(l, slices.Repeat(recs("2 33: append 3 7 7"), spare))
	for i := range out {
		data := slices.Concat(out[i].C.Data, []int{91, 92, 93, 94, 95})
		out[i].C.Data = data[:len(data)-spare]
	}
	return out[:len(l)]
}

// shot: a picture of l, with the room behind its lists, that no call can change.
func shot(l []api.Rec) []api.Rec {
	out := slices.Clone(l[:cap(l)])
	for i, r := range out {
		out[i].C.Data = slices.Clone(r.C.Data[:cap(r.C.Data)])
	}
	return out
}

// scribble writes over all that stands in the lists of l, and behind them.
func scribble(l []api.Rec) {
	for i, r := range l[:cap(l)] {
		for k := range r.C.Data[:cap(r.C.Data)] {
			r.C.Data[:cap(r.C.Data)][k] = 7
		}
		l[:cap(l)][i] = api.Rec{Who: 1, Seq: 9, C: api.Cmd{Kind: api.CReset, Data: []int{8}}}
	}
}

// logs of all kinds: right ones and wrong ones.
func logs() [][]api.Rec {
	out := [][]api.Rec{nil, {}, mixed(), longLog(), append(longLog(), rec("2 1: clear")), recs("1 1: append 1 5", "1 1: append 1 5 6")}
	for n := range mixed() {
		out = append(out, mixed()[:n])
	}
	for _, w := range wrongOnes() {
		out = append(out, append(mixed(), w.r))
	}
	return out
}

func TestHandedInIsOnlyRead(t *testing.T) {
	for i, l := range logs() {
		for _, k := range []int{-1, 0, 1, 2, 3, 4} {
			l := roomy(l)
			before := shot(l)
			a, e := tally.Owners(l, k)
			if !slices.EqualFunc(shot(l), before, note.Same) {
				t.Errorf("log %d, zone %d: %v, was %v", i, k, l, before)
			}
			was := slices.Clone(a)
			scribble(l)
			if !slices.Equal(a, was) {
				t.Errorf("log %d, zone %d: what was handed in is kept: %v, was %v, %d", i, k, a, was, e)
			}
		}
	}
}

// What is done with an answer changes neither what was handed in nor another answer; the same is answered each time.
func TestAnsweredIsNew(t *testing.T) {
	some := 0
	for i, l := range logs() {
		for k := range api.MaxZones {
			l := roomy(l)
			before := shot(l)
			a, e := tally.Owners(l, k)
			b, f := tally.Owners(l, k)
			was := slices.Clone(a)
			if !slices.Equal(b, was) || e != f {
				t.Errorf("log %d, zone %d: %v %d, then %v %d", i, k, a, e, b, f)
			}
			for n := range a[:cap(a)] {
				a[:cap(a)][n] = 77
			}
			if !slices.Equal(b, was) || !slices.EqualFunc(shot(l), before, note.Same) {
				t.Errorf("log %d, zone %d: %v, was %v; %v, was %v", i, k, b, was, l, before)
			}
			some += len(was)
		}
	}
	if some < 100 {
		t.Errorf("%d owners", some)
	}
}
