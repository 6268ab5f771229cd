package story_test

import (
	"fmt"
	"slices"
	"strings"
	"testing"

	"quayhand/api"
	"quayhand/cmd"
	"quayhand/hall"
	"quayhand/note"
	"quayhand/story"
	"quayhand/world"
)

// command of a text; it must be a right one.
func command(text string) api.Cmd {
	c, e := cmd.Parse(text)
	if e != api.OK {
		panic(fmt.Sprint(text, ": ", e))
	}
	return c
}

func wrote(at int) api.Answer     { return api.Answer{At: at} }
func read(data ...int) api.Answer { return api.Answer{Data: data} }
func fail(e api.Errno) api.Answer { return api.Answer{E: e} }

func sameAnswer(a, b api.Answer) bool {
	return a.E == b.E && a.At == b.At && slices.Equal(a.Data, b.Data)
}

// line of a log, and what must be told of it.
type line struct {
	text string
	a    api.Answer
}

// play: a log that has all kinds of commands, done and refused.
func play() []line {
	return []line{
		{"0 1: append 1 5 6\n", wrote(0)},
		{"1 1: append 1 7\n", wrote(2)},
		{"2 1: read 1 0 3\n", read(5, 6, 7)},
		{"2 2: write 1 3 8\n", wrote(3)},
		{"0 2: write 1 0 9\n", fail(api.ErrLate)},
		{"1 2: read 1 3 2\n", fail(api.ErrLate)},
		{"1 3: read 4 0 0\n", fail(api.ErrWho)},
		{"0 3: append 4 1\n", fail(api.ErrWho)},
		{"0 4: register 5\n", api.Answer{}},
		{"0 5: reserve 2\n", api.Answer{}},
		{"1 4: read 1 0 1\n", fail(api.ErrKey)},
		{"1 5: append 1 9\n", fail(api.ErrKey)},
		{"0 6: read 1 1 1\n", read(6)},
		{"2 3: register 10\n", fail(api.ErrRange)},
		{"2 4: reserve 1\n", fail(api.ErrKey)},
		{"2 5: register 6\n", api.Answer{}},
		{"2 6: preempt 5\n", api.Answer{}},
		{"0 7: read 1 0 1\n", fail(api.ErrKey)},
		{"2 7: reset 1\n", api.Answer{}},
		{"2 8: append 1 1 2 3 4 5 6 7 999\n", wrote(0)},
		{"2 9: append 1 9\n", fail(api.ErrFull)},
		{"2 10: read 1 0 8\n", read(1, 2, 3, 4, 5, 6, 7, 999)},
		{"2 11: release\n", api.Answer{}},
		{"1 6: open 2\n", api.Answer{}},
		{"1 7: close 2\n", api.Answer{}},
		{"1 8: close 2\n", fail(api.ErrLate)},
		{"1 9: finish 3\n", api.Answer{}},
		{"1 10: open 3\n", fail(api.ErrFull)},
		{"1 11: clear\n", fail(api.ErrKey)},
		{"2 12: clear\n", api.Answer{}},
		{"0 8: read 0 0 0\n", api.Answer{}},
	}
}

// textOf lines, as a disk has them. toldOf: what must be told of them.
func textOf(l []line) string {
	out := ""
	for _, x := range l {
		out += x.text
	}
	return out
}

func toldOf(l []line) []api.Answer {
	var out []api.Answer
	for _, x := range l {
		out = append(out, x.a)
	}
	return out
}

// records of a text of lines; all of them must be right.
func records(text string) []api.Rec {
	var out []api.Rec
	for l := range strings.Lines(text) {
		r, e := note.Parse(strings.TrimSuffix(l, "\n"))
		if e != api.OK {
			panic(fmt.Sprintf("%q: %d", l, e))
		}
		out = append(out, r)
	}
	return out
}

// up: a world that is up, and has this on its disk. off: one that isn't, and in which that waits.
func up(safe string) api.World {
	w := world.New()
	h, e := hall.Replay(records(safe))
	if e != api.OK {
		panic(fmt.Sprintf("%q: %d", safe, e))
	}
	w.H, w.D.Safe = h, []byte(safe)
	return w
}

func off(safe, wait string) api.World {
	w := world.New()
	w.Up, w.D = false, api.Disk{Safe: []byte(safe), Wait: []byte(wait)}
	return w
}

// try holds what is answered of w against what must be; e: what is wrong with telling the answers, of which there are none then.
func try(t *testing.T, name string, w api.World, done []api.Rec, told []api.Answer, e api.Errno) {
	t.Helper()
	if l, f := story.Done(w); f != api.OK || !slices.EqualFunc(l, done, note.Same) {
		t.Fatalf("%s: done in %v: %v %d, want %v", name, w, l, f, done)
	}
	if l, f := story.Told(w); f != e || !slices.EqualFunc(l, told, sameAnswer) {
		t.Fatalf("%s: told in %v: %v %d, want %v %d", name, w, l, f, told, e)
	}
}

func TestNothingDone(t *testing.T) {
	asked := world.New()
	asked.Hand[1] = api.Hand{Seq: 1, Waits: true, C: command("append 1 5")}
	asked.Mail = slices.Repeat([]api.Mail{{Who: 1, Seq: 1, C: command("append 1 5")}}, 30)
	try(t, "new", world.New(), nil, nil, api.OK)
	try(t, "asked", asked, nil, nil, api.OK)
	for _, wait := range []string{"", "\n", "x", "0 1: clear", "stop\n0 1: clear\n", "3 1: clear\n", "0 0: clear\n", "0 1: append 1\n", " 0 1: clear\n", "\xff\n", strings.Repeat("x", 60000)} {
		try(t, "off", off("", wait), nil, nil, api.OK)
	}
}

// Each beginning of the play, up and off, safe and waiting.
func TestEachLine(t *testing.T) {
	l := play()
	for n := range len(l) + 1 {
		done, told := records(textOf(l[:n])), toldOf(l[:n])
		try(t, "up", up(textOf(l[:n])), done, told, api.OK)
		for safe := range n + 1 {
			try(t, "off", off(textOf(l[:safe]), textOf(l[safe:n])), done, told, api.OK)
		}
	}
}

// What waits may be torn at each byte: its whole lines count, the rest of it doesn't, whatever it is.
func TestTornLines(t *testing.T) {
	l := play()
	for _, safe := range []int{0, 1, 12, len(l) - 1, len(l)} {
		wait := textOf(l[safe:])
		for kept := range len(wait) + 1 {
			whole := safe + strings.Count(wait[:kept], "\n")
			done, told := records(textOf(l[:whole])), toldOf(l[:whole])
			try(t, "torn", off(textOf(l[:safe]), wait[:kept]), done, told, api.OK)
			if !strings.HasSuffix("\n"+wait[:kept], "\n") {
				try(t, "torn, and more behind it", off(textOf(l[:safe]), wait[:kept]+"?\n"+wait[kept:]), done, told, api.OK)
				continue
			}
			for _, rest := range []string{"\n", "x", "\xff\xfe\n", "stop\n0 40: clear\n", "3 1: clear\n", "0 41: clear\n", "0 40: append 1\n", "0 40: open 1000\n", "0 40: clear"} {
				try(t, "wrong behind it", off(textOf(l[:safe]), wait[:kept]+rest), done, told, api.OK)
			}
		}
	}
}

// longPlay: as many lines as there may be: two hands, each of which asks all that it may.
func longPlay() []line {
	var out []line
	for i := range 40 {
		k := i / 8 % 4
		out = append(out, line{fmt.Sprintf("0 %d: append %d %d\n", i+1, k, i), wrote(i % 8)})
		out = append(out, line{fmt.Sprintf("2 %d: read %d %d 1\n", i+1, k, i%8), read(i)})
		if i >= 32 { // zone 0 is full
			out[2*i].a, out[2*i+1].a = fail(api.ErrFull), read(i%8)
		}
	}
	return out
}

func TestAsMuchAsThereMayBe(t *testing.T) {
	l := longPlay()
	if len(l) != 80 {
		t.Fatal(len(l))
	}
	try(t, "up", up(textOf(l)), records(textOf(l)), toldOf(l), api.OK)
	try(t, "one less", up(textOf(l[:79])), records(textOf(l[:79])), toldOf(l[:79]), api.OK)
	for _, more := range []string{"", "1 1: clear\n", "1 1: clear\n1 2: clear\n", "0 9: clear\n", "1 1", "?\n"} {
		for safe := range 81 {
			try(t, "off", off(textOf(l[:safe]), textOf(l[safe:])+more), records(textOf(l)), toldOf(l), api.OK)
		}
	}
}

// The last one of a hand may stand there again, even with another command: it is told again as it was.
func TestRecordsThatComeAgain(t *testing.T) {
	l := []line{
		{"0 1: append 1 5\n", wrote(0)},
		{"1 1: append 1 6\n", wrote(1)},
		{"0 1: append 1 5\n", wrote(0)},
		{"0 1: reset 1\n", wrote(0)},
		{"2 1: read 1 0 2\n", read(5, 6)},
		{"2 2: reserve 1\n", fail(api.ErrKey)},
		{"2 2: register 3\n", fail(api.ErrKey)},
		{"1 1: read 1 0 2\n", wrote(1)},
		{"2 3: register 3\n", api.Answer{}},
		{"0 2: read 1 0 2\n", read(5, 6)},
		{"1 2: reset 1\n", api.Answer{}},
		{"0 2: read 1 0 2\n", read(5, 6)},
	}
	for n := range len(l) + 1 {
		done, told := records(textOf(l[:n])), toldOf(l[:n])
		try(t, "up", up(textOf(l[:n])), done, told, api.OK)
		try(t, "off", off(textOf(l[:n/2]), textOf(l[n/2:n])), done, told, api.OK)
	}
	all := slices.Repeat(l[:1], 80)
	try(t, "80 times", up(textOf(all)), records(textOf(all)), toldOf(all), api.OK)
	try(t, "more than 80 times", off(textOf(all[:50]), textOf(all)), records(textOf(all)), toldOf(all), api.OK)
}

// Where the power is off the records needn't follow each other: they are done as they stand, but nothing can be told of them.
func TestRecordsThatTheHallRefuses(t *testing.T) {
	l := play()
	for at := range len(l) + 1 {
		for _, r := range []string{"0 40: clear\n", "1 14: append 1 5\n", "2 20: read 1 0 1\n"} {
			text := textOf(l[:at]) + r + textOf(l[at:])
			for _, safe := range []int{0, len(textOf(l[:at])), len(textOf(l[:at]) + r), len(text)} {
				w := off(text[:safe], text[safe:]+"0 9")
				try(t, "too early", w, records(text), nil, api.ErrLate)
			}
		}
	}
	for at := range len(l) {
		if isLastOfHand(l, at) {
			continue // nothing is out of turn without it
		}
		text := textOf(slices.Delete(play(), at, at+1))
		try(t, "one is missing", off("", text), records(text), nil, api.ErrLate)
		try(t, "one is missing", off(text, ""), records(text), nil, api.ErrLate)
	}
	long := longPlay()
	text := textOf(long[:79]) + "1 2: clear\n"
	try(t, "the last of as many as may be", off(text, ""), records(text), nil, api.ErrLate)
	text = textOf(long)
	try(t, "one more", off(text, "1 2: clear\n"), records(text), toldOf(long), api.OK)
	try(t, "behind what is torn", off("", l[0].text+"?\n1 2: clear\n"), records(l[0].text), toldOf(l[:1]), api.OK)
	try(t, "too late", off("0 1: clear\n0 2: clear\n", "0 1: clear\n"), records("0 1: clear\n0 2: clear\n0 1: clear\n"), nil, api.ErrLate)
	try(t, "no zone 4 is told, not refused", off("", "0 1: open 4\n"), records("0 1: open 4\n"), []api.Answer{fail(api.ErrWho)}, api.OK)
}

// isLastOfHand: does no line behind this one have its hand?
func isLastOfHand(l []line, at int) bool {
	return !slices.ContainsFunc(l[at+1:], func(x line) bool { return x.text[0] == l[at].text[0] })
}

// What hands wait for and got, and what is on its way, is asked by nobody here.
func TestHandsAndMailDoNotMatter(t *testing.T) {
	l := play()
	hands := []api.Hand{{}, {Seq: 2, Got: []api.Answer{wrote(7), read(9, 9)}}, {Seq: 1, Waits: true, C: command("append 1 5")}}
	mail := []api.Mail{{Who: 1, Seq: 40, C: command("reset 1")}, {Back: true, Seq: 1, A: wrote(6)}, {Who: 2, Seq: 13, C: command("append 1 5")}}
	for n := range len(l) + 1 {
		text := textOf(l[:n])
		for _, w := range []api.World{up(text), off(text, ""), off("", text+"2 1")} {
			for many := range 31 {
				w.Hand, w.Mail = slices.Repeat(hands[many%3:many%3+1], 3), slices.Repeat(mail, 10)[:many]
				try(t, "hands and mail", w, records(text), toldOf(l[:n]), api.OK)
			}
			w.Hand = hands
			try(t, "hands and mail", w, records(text), toldOf(l[:n]), api.OK)
		}
	}
}
