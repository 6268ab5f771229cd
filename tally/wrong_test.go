package tally_test

import (
	"fmt"
	"math"
	"slices"
	"testing"

	"quayhand/api"
	"quayhand/hall"
	"quayhand/tally"
)

// tryWrong: this error is told, and nothing else.
func tryWrong(t *testing.T, name string, l []api.Rec, k int, want api.Errno) {
	t.Helper()
	if got, e := tally.Owners(l, k); e != want || len(got) != 0 {
		t.Errorf("%s: zone %d is of %v %d, want error %d", name, k, got, e, want)
	}
}

// noZones: what is none of the zones.
func noZones() []int {
	return []int{-1, 4, -2, 5, 8, 80, 999, -999, math.MaxInt, math.MinInt, 1 << 32, 1<<32 + 1, -1 << 32}
}

// mixed: a log that has commands of all hands and of most kinds, done and refused; hand 2 comes again in it.
func mixed() []api.Rec {
	return recs(
		"0 1: append 1 5 6", "1 1: append 1 7", "2 1: write 1 0 8", "2 1: write 1 0 8", "0 2: open 2", "1 2: append 3 1 2 3 4 5 6 7 8",
		"2 2: reset 1", "1 3: register 5", "1 4: reserve 1", "0 3: append 1 5", "1 5: append 1 9", "2 3: finish 1",
		"1 6: read 1 0 1", "1 7: close 1", "1 8: release", "2 4: append 1 5 6", "0 4: clear", "1 9: clear",
	)
}

func TestNoSuchZone(t *testing.T) {
	for _, l := range [][]api.Rec{nil, mixed()[:1], mixed(), longLog()} {
		for _, k := range noZones() {
			tryWrong(t, "right records", l, k, api.ErrWho)
		}
	}
}

// wrong: a record that isn't right by itself, and what is wrong with it.
type wrong struct {
	r    api.Rec
	want api.Errno
}

func wrongOnes() []wrong {
	right := api.Cmd{Kind: api.CClear}
	return []wrong{
		{api.Rec{}, api.ErrRange},
		{api.Rec{Who: 3, Seq: 1, C: right}, api.ErrRange},
		{api.Rec{Who: -1, Seq: 1, C: right}, api.ErrRange},
		{api.Rec{Who: math.MinInt, Seq: math.MaxInt}, api.ErrRange},
		{api.Rec{Who: 1, Seq: 0, C: right}, api.ErrRange},
		{api.Rec{Who: 1, Seq: 41, C: right}, api.ErrRange},
		{api.Rec{Who: 1, Seq: 1}, api.ErrForm},
		{api.Rec{Who: 1, Seq: 40, C: api.Cmd{Kind: 13}}, api.ErrForm},
		{api.Rec{Who: 1, Seq: 1, C: api.Cmd{Kind: api.CAppend, Z: 1}}, api.ErrForm},
		{api.Rec{Who: 1, Seq: 1, C: api.Cmd{Kind: api.CReset, Z: 1, At: 1}}, api.ErrForm},
		{api.Rec{Who: 1, Seq: 1, C: api.Cmd{Kind: api.CAppend, Z: 1, Data: make([]int, 9)}}, api.ErrMany},
		{api.Rec{Who: 1, Seq: 1, C: api.Cmd{Kind: api.CAppend, Z: 1, Data: []int{1, 1000}}}, api.ErrRange},
		{api.Rec{Who: 1, Seq: 1, C: api.Cmd{Kind: api.CAppend, Z: -1, Data: []int{1}}}, api.ErrRange},
		{api.Rec{Who: 1, Seq: 1, C: api.Cmd{Kind: api.COpen, Z: 1000}}, api.ErrRange},
	}
}

// outOfTurn: records that are right by themselves, but not behind these.
func outOfTurn(l []api.Rec) []wrong {
	h, e := hall.Replay(l)
	if e != api.OK {
		panic(fmt.Sprint(l, e))
	}
	var out []wrong
	for who, last := range h.Last {
		for _, seq := range []int{last.Seq - 1, last.Seq - 2, last.Seq + 2, last.Seq + 3, 40} {
			if seq >= 1 && seq <= 40 && seq != last.Seq && seq != last.Seq+1 {
				out = append(out, wrong{api.Rec{Who: who, Seq: seq, C: rec("0 1: append 1 5").C}, api.ErrLate})
			}
		}
	}
	return out
}

// What the hall refuses is told, wherever it stands, whichever zone is asked for; of several the first one.
func TestRecordsThatTheHallRefuses(t *testing.T) {
	l := mixed()
	for at := range len(l) + 1 {
		for _, w := range slices.Concat(wrongOnes(), outOfTurn(l[:at])) {
			bad := slices.Insert(slices.Clone(l), at, w.r)
			for k := range api.MaxZones {
				tryWrong(t, fmt.Sprint(w.r, " at ", at), bad, k, w.want)
				tryWrong(t, fmt.Sprint(w.r, " at ", at, ", the last one"), bad[:at+1], k, w.want)
			}
			for _, second := range wrongOnes() {
				more := slices.Insert(slices.Clone(bad), at+1, second.r)
				tryWrong(t, fmt.Sprint(w.r, " at ", at, ", and ", second.r), more, 1, w.want)
			}
		}
	}
	for at := range len(l) {
		if behind := slices.Delete(mixed(), at, at+1); isMissed(l, at) {
			tryWrong(t, fmt.Sprint("without ", l[at]), behind, 1, api.ErrLate)
		}
	}
}

// isMissed: does its hand ask something behind it, and does it not stand there twice?
func isMissed(l []api.Rec, at int) bool {
	others := slices.Delete(slices.Clone(l), at, at+1)
	twice := slices.ContainsFunc(others, func(r api.Rec) bool { return r.Who == l[at].Who && r.Seq == l[at].Seq })
	last := !slices.ContainsFunc(l[at+1:], func(r api.Rec) bool { return r.Who == l[at].Who })
	return !twice && !last
}

func TestTheLastOfAsManyAsThereMayBe(t *testing.T) {
	l := longLog()
	for _, w := range slices.Concat(wrongOnes(), outOfTurn(l[:79])) {
		tryWrong(t, fmt.Sprint(w.r), append(l[:79:79], w.r), 1, w.want)
	}
}

func TestMoreThanThereMayBe(t *testing.T) {
	for _, l := range [][]api.Rec{
		append(longLog(), rec("2 1: append 1 5")),
		slices.Repeat(recs("2 1: append 1 5"), 81),
		slices.Repeat(mixed(), 30),
		make([]api.Rec, 81),
		make([]api.Rec, 100000),
	} {
		for k := range api.MaxZones {
			tryWrong(t, fmt.Sprint(len(l)), l, k, api.ErrMany)
		}
	}
}

// Of several errors that of the number of records comes first, then that of k, then that of a record.
func TestTheErrorThatComesFirst(t *testing.T) {
	for _, k := range noZones() {
		tryWrong(t, "too many, no zone", append(longLog(), rec("2 1: append 1 5")), k, api.ErrMany)
		tryWrong(t, "too many, no zone, wrong records", make([]api.Rec, 81), k, api.ErrMany)
		tryWrong(t, "no zone, wrong records", make([]api.Rec, 80), k, api.ErrWho)
		for _, w := range slices.Concat(wrongOnes(), outOfTurn(mixed())) {
			tryWrong(t, "no zone, a wrong record", append(mixed(), w.r), k, api.ErrWho)
		}
	}
	tryWrong(t, "too many, a wrong record", append(longLog()[:80:80], api.Rec{}), 0, api.ErrMany)
}
