package hand_test

import (
	"fmt"
	"math"
	"slices"
	"testing"

	"quayhand/api"
	"quayhand/cmd"
	"quayhand/hand"
)

// command of a text; it must be a right one.
func command(text string) api.Cmd {
	c, e := cmd.Parse(text)
	if e != api.OK {
		panic(fmt.Sprint(text, ": ", e))
	}
	return c
}

func wrote(at int) api.Answer     { return api.Answer{At: at} }
func read(data ...int) api.Answer { return api.Answer{Data: data} }
func fail(e api.Errno) api.Answer { return api.Answer{E: e} }
func many(n, v int) []int         { return slices.Repeat([]int{v}, n) }

// texts: commands of each kind.
var texts = []string{
	"open 0", "open 999", "close 1", "finish 2", "reset 3", "append 0 0", "append 1 5 6", "append 999 1 2 3 4 5 6 7 999",
	"write 0 0 0", "write 1 7 9 8", "write 999 999 999", "read 0 0 0", "read 1 2 3", "read 999 999 999",
	"register 0", "register 5", "register 999", "reserve 1", "release", "preempt 5", "clear",
}

// answers: right ones, with each error.
func answers() []api.Answer {
	out := []api.Answer{{}, wrote(1), wrote(7), read(0), read(5, 999), read(many(8, 6)...), {At: 3, Data: []int{1}}}
	for e := api.ErrText; e <= api.ErrTorn; e++ {
		out = append(out, fail(e))
	}
	return out
}

// some: n answers, not all alike.
func some(n int) []api.Answer {
	var out []api.Answer
	for i, l := 0, answers(); i < n; i++ {
		out = append(out, l[i%len(l)])
	}
	return out
}

// idle: a hand that has heard of all n that it asked.
func idle(n int) api.Hand { return api.Hand{Seq: n, Got: some(n)} }

// waiting: a hand that has asked n, and waits for the last one.
func waiting(n int, text string) api.Hand {
	return api.Hand{Seq: n, Waits: true, C: command(text), Got: some(n - 1)}
}

// hands: right ones, no two alike.
func hands() []api.Hand {
	var out []api.Hand
	for n := range api.MaxSeq + 1 {
		out = append(out, idle(n))
	}
	for n := 1; n <= api.MaxSeq; n++ {
		out = append(out, waiting(n, texts[n%len(texts)]))
	}
	return append(out, waiting(40, "read 0 0 0"), waiting(1, "append 1 5 6"), api.Hand{Seq: 1, Got: []api.Answer{wrote(6)}})
}

// few of these, where many are too much.
func few() []api.Hand {
	return []api.Hand{
		idle(0), idle(1), idle(7), idle(39), idle(40),
		waiting(1, "clear"), waiting(1, "append 1 5 6"), waiting(2, "write 1 7 9 8"), waiting(9, "open 0"), waiting(40, "read 1 2 3"),
	}
}

func sameAnswer(a, b api.Answer) bool {
	return a.E == b.E && a.At == b.At && slices.Equal(a.Data, b.Data)
}

// alike: are all fields of two hands alike? (Told without the package that is tested.)
func alike(a, b api.Hand) bool {
	return a.Seq == b.Seq && a.Waits == b.Waits && cmd.Same(a.C, b.C) && slices.EqualFunc(a.Got, b.Got, sameAnswer)
}

// asks: h, which is right and doesn't wait, once it has asked c.
func asks(h api.Hand, c api.Cmd) api.Hand {
	return api.Hand{Seq: h.Seq + 1, Waits: true, C: c, Got: h.Got}
}

// hears: h, which waits, once it was answered.
func hears(h api.Hand, a api.Answer) api.Hand {
	return api.Hand{Seq: h.Seq, Got: append(slices.Clone(h.Got), a)}
}

func tryAsk(t *testing.T, name string, h api.Hand, c api.Cmd, want api.Hand, e api.Errno) {
	t.Helper()
	next, f := hand.Ask(h, c)
	if f != e || !alike(next, want) {
		t.Errorf("%s: %v asks %v: %v %d, want %v %d", name, h, c, next, f, want, e)
	}
	if f == api.OK && hand.Check(next) != api.OK {
		t.Errorf("%s: %v asks %v: what comes of it is wrong: %v", name, h, c, next)
	}
}

func tryHear(t *testing.T, name string, h api.Hand, seq int, a api.Answer, want api.Hand, e api.Errno) {
	t.Helper()
	next, f := hand.Hear(h, seq, a)
	if f != e || !alike(next, want) {
		t.Errorf("%s: %v hears %d %v: %v %d, want %v %d", name, h, seq, a, next, f, want, e)
	}
	if f == api.OK && hand.Check(next) != api.OK {
		t.Errorf("%s: %v hears %d %v: what comes of it is wrong: %v", name, h, seq, a, next)
	}
}

// P9.1

// fault: a hand, and what is wrong with it; OK: nothing.
type fault struct {
	name string
	h    api.Hand
	want api.Errno
}

type wrongCmd struct {
	c    api.Cmd
	want api.Errno
}

// wrongCmds: commands, and what is wrong with them.
func wrongCmds() []wrongCmd {
	return []wrongCmd{
		{api.Cmd{}, api.ErrForm},
		{api.Cmd{Kind: -1}, api.ErrForm},
		{api.Cmd{Kind: 13}, api.ErrForm},
		{api.Cmd{Kind: math.MaxInt}, api.ErrForm},
		{api.Cmd{Kind: math.MinInt}, api.ErrForm},
		{api.Cmd{Z: 1}, api.ErrForm},
		{api.Cmd{Data: []int{1}}, api.ErrForm},
		{api.Cmd{Kind: api.CClear, N: 1}, api.ErrForm},
		{api.Cmd{Kind: api.COpen, At: 1}, api.ErrForm},
		{api.Cmd{Kind: api.CAppend}, api.ErrForm},
		{api.Cmd{Kind: api.CAppend, Data: many(9, 1)}, api.ErrMany},
		{api.Cmd{Kind: api.CAppend, Data: many(500, -1)}, api.ErrMany},
		{api.Cmd{Kind: api.COpen, Z: 1000}, api.ErrRange},
		{api.Cmd{Kind: api.CRead, N: -1}, api.ErrRange},
		{api.Cmd{Kind: api.CAppend, Data: []int{0, 1000}}, api.ErrRange},
	}
}

type wrongAnswer struct {
	a    api.Answer
	want api.Errno
}

// wrongAnswers: answers, and what is wrong with them.
func wrongAnswers() []wrongAnswer {
	return []wrongAnswer{
		{fail(-1), api.ErrRange},
		{fail(10), api.ErrRange},
		{fail(math.MinInt), api.ErrRange},
		{wrote(-1), api.ErrRange},
		{wrote(8), api.ErrRange},
		{wrote(math.MaxInt), api.ErrRange},
		{read(many(9, 1)...), api.ErrMany},
		{read(1, 1000), api.ErrRange},
		{read(-1), api.ErrRange},
		{api.Answer{E: api.ErrKey, At: 1}, api.ErrForm},
		{api.Answer{E: api.ErrLate, Data: []int{0}}, api.ErrForm},
	}
}

// rightOnes: hands that are right, though they may look odd.
func rightOnes() []fault {
	out := []fault{
		{"zero", api.Hand{}, api.OK},
		{"lists that are empty, not nil", api.Hand{C: api.Cmd{Data: []int{}}, Got: []api.Answer{}}, api.OK},
		{"waits, and lists that are empty, not nil", api.Hand{Seq: 1, Waits: true, C: api.Cmd{Kind: api.CClear, Data: []int{}}, Got: []api.Answer{}}, api.OK},
		{"an answer's list that is empty, not nil", api.Hand{Seq: 1, Got: []api.Answer{{E: api.ErrKey, Data: []int{}}}}, api.OK},
		{"answers that are zero", api.Hand{Seq: 40, Got: make([]api.Answer, 40)}, api.OK},
		{"waits behind answers that are zero", api.Hand{Seq: 40, Waits: true, C: command("clear"), Got: make([]api.Answer, 39)}, api.OK},
	}
	for _, h := range hands() {
		out = append(out, fault{"a hand", h, api.OK})
	}
	for _, text := range texts {
		out = append(out, fault{text, waiting(3, text), api.OK})
	}
	for _, a := range answers() {
		out = append(out, fault{"an answer", api.Hand{Seq: 1, Got: []api.Answer{a}}, api.OK})
	}
	return out
}

// numberFaults: a number that may not be comes ahead of all else, however many answers there are.
func numberFaults() []fault {
	var out []fault
	for _, seq := range []int{-1, 41, 42, 1000, math.MinInt, math.MaxInt} {
		for _, waits := range []bool{false, true} {
			for _, n := range []int{0, 1, 40, 41, 42} {
				for _, c := range []api.Cmd{{}, {Kind: 13}, command("append 1 5")} {
					h := api.Hand{Seq: seq, Waits: waits, C: c, Got: some(n)}
					out = append(out, fault{"Seq", h, api.ErrRange})
				}
			}
			h := api.Hand{Seq: seq, Waits: waits, Got: []api.Answer{read(many(9, 1)...)}}
			out = append(out, fault{"Seq ahead of an answer", h, api.ErrRange})
		}
	}
	return out
}

// answerFaults: a wrong answer at each place, whatever else is wrong behind it; of two of them the first one is told.
func answerFaults() []fault {
	var out []fault
	for at := range 5 {
		for _, w := range wrongAnswers() {
			for _, h := range []api.Hand{idle(5), waiting(6, "open 0"), {Got: some(5)}, {Seq: 40, Got: some(5)}, {Seq: 5, C: command("clear"), Got: some(5)}, {Seq: 6, Waits: true, Got: some(5)}} {
				h.Got[at] = w.a
				out = append(out, fault{fmt.Sprint("answer ", at), h, w.want})
			}
			if at == 4 {
				continue
			}
			for _, x := range wrongAnswers() {
				h := idle(5)
				h.Got[at], h.Got[4] = w.a, x.a
				out = append(out, fault{fmt.Sprint("answer ", at, ", and the last one"), h, w.want})
			}
		}
	}
	return out
}

// commandFaults: what is wrong with C, and that it comes behind all else.
func commandFaults() []fault {
	out := []fault{
		{"doesn't wait, and Kind", api.Hand{C: api.Cmd{Kind: 1}}, api.ErrForm},
		{"doesn't wait, and Z", api.Hand{C: api.Cmd{Z: 1}}, api.ErrForm},
		{"doesn't wait, and N", api.Hand{C: api.Cmd{N: -1}}, api.ErrForm},
		{"doesn't wait, and At", api.Hand{C: api.Cmd{At: 1}}, api.ErrForm},
		{"doesn't wait, and Data", api.Hand{C: api.Cmd{Data: []int{0}}}, api.ErrForm},
	}
	for _, n := range []int{1, 2, 17, 40} {
		for _, text := range texts {
			out = append(out, fault{"doesn't wait, and a right C", api.Hand{Seq: n, C: command(text), Got: some(n)}, api.ErrForm})
		}
		for _, w := range wrongCmds() {
			out = append(out, fault{"waits", api.Hand{Seq: n, Waits: true, C: w.c, Got: some(n - 1)}, w.want})
			out = append(out, fault{"waits, and a number is off", api.Hand{Seq: n, Waits: true, C: w.c, Got: some(n)}, api.ErrForm})
			if w.c.Kind != 0 {
				out = append(out, fault{"doesn't wait, and a wrong C", api.Hand{Seq: n, C: w.c, Got: some(n)}, api.ErrForm})
			}
		}
	}
	return out
}

// wrongs: hands with one fault, and with several.
func wrongs() []fault {
	return append(slices.Concat(numberFaults(), answerFaults(), commandFaults()), []fault{
		{"a number, but no answer", api.Hand{Seq: 1}, api.ErrForm},
		{"an answer, but no number", api.Hand{Got: some(1)}, api.ErrForm},
		{"waits for nothing", api.Hand{Waits: true}, api.ErrForm},
		{"waits, but no number", api.Hand{Waits: true, C: command("clear")}, api.ErrForm},
		{"waits for one that it has got", api.Hand{Seq: 1, Waits: true, C: command("clear"), Got: some(1)}, api.ErrForm},
		{"far too many answers", api.Hand{Seq: 40, Got: some(5000)}, api.ErrForm},
		{"far too many answers, the last one wrong", api.Hand{Seq: 40, Got: append(some(5000), wrote(8))}, api.ErrRange},
		{"all asked, one more answer", api.Hand{Seq: 40, Got: some(41)}, api.ErrForm},
		{"all asked and got, and waits", api.Hand{Seq: 40, Waits: true, C: command("clear"), Got: some(40)}, api.ErrForm},
	}...)
}

func TestCheckErrorsAndWhichIsFirst(t *testing.T) {
	for _, c := range append(rightOnes(), wrongs()...) {
		if e := hand.Check(c.h); e != c.want {
			t.Errorf("%s: %v: %d, want %d", c.name, c.h, e, c.want)
		}
	}
}

// Each number with each number of answers, whether it waits or not.
func TestCheckOfEachNumber(t *testing.T) {
	for seq := -3; seq <= 45; seq++ {
		for n := range 46 {
			for _, waits := range []bool{false, true} {
				h, must := api.Hand{Seq: seq, Waits: waits, Got: some(n)}, n
				if waits {
					h.C, must = command("open 1"), n+1
				}
				want := api.OK
				if seq < 0 || seq > 40 {
					want = api.ErrRange
				} else if seq != must {
					want = api.ErrForm
				}
				if e := hand.Check(h); e != want {
					t.Errorf("%d, %d answers, waits: %v: %d, want %d", seq, n, waits, e, want)
				}
			}
		}
	}
}

func TestSame(t *testing.T) {
	for i, a := range hands() {
		for k, b := range hands() {
			if hand.Same(a, b) != (i == k) {
				t.Errorf("%v and %v", a, b)
			}
		}
	}
}

// One thing is changed, of hands that have all fields, right and wrong.
func TestSameOfEachField(t *testing.T) {
	full := func() api.Hand {
		l := []api.Answer{{E: 3, At: 2, Data: []int{5, 6}}, {}, {At: 1, Data: []int{7}}}
		return api.Hand{Seq: 4, Waits: true, C: api.Cmd{Kind: 6, Z: 1, N: 2, At: 3, Data: []int{8, 9}}, Got: l}
	}
	for _, c := range []struct {
		name  string
		spoil func(h *api.Hand)
	}{
		{"Seq", func(h *api.Hand) { h.Seq++ }},
		{"Waits", func(h *api.Hand) { h.Waits = false }},
		{"Kind", func(h *api.Hand) { h.C.Kind-- }},
		{"Z", func(h *api.Hand) { h.C.Z++ }},
		{"N", func(h *api.Hand) { h.C.N++ }},
		{"At of C", func(h *api.Hand) { h.C.At-- }},
		{"a value of C", func(h *api.Hand) { h.C.Data[1]++ }},
		{"a value of C more", func(h *api.Hand) { h.C.Data = append(h.C.Data, 0) }},
		{"a value of C less", func(h *api.Hand) { h.C.Data = h.C.Data[:1] }},
		{"no Data of C", func(h *api.Hand) { h.C.Data = nil }},
		{"no C", func(h *api.Hand) { h.C = api.Cmd{} }},
		{"the first E", func(h *api.Hand) { h.Got[0].E-- }},
		{"the last E", func(h *api.Hand) { h.Got[2].E++ }},
		{"an At", func(h *api.Hand) { h.Got[0].At++ }},
		{"the last At", func(h *api.Hand) { h.Got[2].At-- }},
		{"a value", func(h *api.Hand) { h.Got[0].Data[1]-- }},
		{"the last value", func(h *api.Hand) { h.Got[2].Data[0]++ }},
		{"a value more", func(h *api.Hand) { h.Got[1].Data = []int{0} }},
		{"a value less", func(h *api.Hand) { h.Got[2].Data = nil }},
		{"values the other way round", func(h *api.Hand) { slices.Reverse(h.Got[0].Data) }},
		{"an answer more", func(h *api.Hand) { h.Got = append(h.Got, api.Answer{}) }},
		{"an answer less", func(h *api.Hand) { h.Got = h.Got[:2] }},
		{"answers the other way round", func(h *api.Hand) { slices.Reverse(h.Got) }},
		{"no answers", func(h *api.Hand) { h.Got = nil }},
	} {
		a, b := full(), full()
		if !hand.Same(a, b) {
			t.Errorf("%s: %v and %v, which are alike", c.name, a, b)
		}
		c.spoil(&b)
		if hand.Same(a, b) || hand.Same(b, a) || !hand.Same(b, b) {
			t.Errorf("%s: %v and %v", c.name, a, b)
		}
	}
}

func TestSameWhateverTheyAre(t *testing.T) {
	odd := func(last int) api.Hand {
		l := []api.Answer{{E: 99, At: -8, Data: append(many(20, -1), last)}}
		return api.Hand{Seq: -3, C: api.Cmd{Kind: 77, Z: -1, Data: many(30, 1000)}, Got: append(l, some(50)...)}
	}
	empty := api.Hand{C: api.Cmd{Data: []int{}}, Got: []api.Answer{}}
	for _, c := range []struct {
		name string
		a, b api.Hand
		want bool
	}{
		{"zero", api.Hand{}, api.Hand{}, true},
		{"nil and empty", api.Hand{}, empty, true},
		{"nil and empty in an answer", api.Hand{Got: make([]api.Answer, 1)}, api.Hand{Got: []api.Answer{{Data: []int{}}}}, true},
		{"no answer, and one that is zero", api.Hand{}, api.Hand{Got: make([]api.Answer, 1)}, false},
		{"alike, but wrong", odd(-2), odd(-2), true},
		{"a value among many", odd(-2), odd(-3), false},
		{"waits alone", api.Hand{Waits: true}, api.Hand{}, false},
	} {
		if hand.Same(c.a, c.b) != c.want || hand.Same(c.b, c.a) != c.want {
			t.Errorf("%s: want %v", c.name, c.want)
		}
	}
}

// P9.2: Ask

func TestAsk(t *testing.T) {
	for _, text := range texts {
		for n := range api.MaxSeq {
			h, c := idle(n), command(text)
			tryAsk(t, text, h, c, asks(h, c), api.OK)
		}
		c := command(text)
		tryAsk(t, "no more may be", idle(40), c, api.Hand{}, api.ErrMany)
		for n := 1; n <= api.MaxSeq; n++ {
			for _, w := range []string{text, "clear", "read 0 0 0"} {
				tryAsk(t, "it waits", waiting(n, w), c, api.Hand{}, api.ErrLate)
			}
		}
	}
}

func TestAskSaysTheHandsErrorFirst(t *testing.T) {
	for _, c := range wrongs() {
		tryAsk(t, c.name, c.h, command("append 1 5"), api.Hand{}, c.want)
		for _, w := range wrongCmds() {
			tryAsk(t, c.name, c.h, w.c, api.Hand{}, c.want)
		}
	}
}

// What is wrong with the command comes ahead of whether it waits, and of whether no more may be.
func TestAskSaysTheCommandsErrorNext(t *testing.T) {
	for _, h := range hands() {
		for _, w := range wrongCmds() {
			tryAsk(t, "a wrong command", h, w.c, api.Hand{}, w.want)
		}
	}
}

// P9.2: Hear

// Each number is heard by each hand: only by one that waits for it is it kept.
func TestHearOfEachNumber(t *testing.T) {
	numbers := []int{math.MinInt, math.MinInt + 1, -1000, 1000, math.MaxInt - 1, math.MaxInt}
	for seq := -45; seq <= 45; seq++ {
		numbers = append(numbers, seq)
	}
	heard := 0
	for _, h := range hands() {
		for i, seq := range numbers {
			a := answers()[i%len(answers())]
			want := h
			if h.Waits && h.Seq == seq {
				want = hears(h, a)
				heard++
			}
			tryHear(t, "each number", h, seq, a, want, api.OK)
		}
	}
	if heard != 42 {
		t.Errorf("%d heard", heard)
	}
}

// Each answer is kept as it is; who doesn't wait for it keeps none.
func TestHearOfEachAnswer(t *testing.T) {
	for _, a := range append(answers(), api.Answer{Data: []int{}}, api.Answer{E: api.ErrKey, Data: []int{}}) {
		for n := 1; n <= api.MaxSeq; n++ {
			for _, text := range []string{"append 1 5 6", "clear", "read 0 0 0"} {
				h := waiting(n, text)
				tryHear(t, "waited for", h, n, a, hears(h, a), api.OK)
				tryHear(t, "too early", h, n+1, a, h, api.OK)
				tryHear(t, "too late", h, n-1, a, h, api.OK)
			}
			tryHear(t, "not waited for", idle(n), n, a, idle(n), api.OK)
			tryHear(t, "not asked yet", idle(n-1), n, a, idle(n-1), api.OK)
			tryHear(t, "long past", idle(n), 1, a, idle(n), api.OK)
		}
		tryHear(t, "nothing asked", api.Hand{}, 0, a, api.Hand{}, api.OK)
		tryHear(t, "nothing asked yet", api.Hand{}, 1, a, api.Hand{}, api.OK)
	}
}

func TestHearSaysTheHandsErrorFirst(t *testing.T) {
	for _, c := range wrongs() {
		for _, seq := range []int{c.h.Seq, c.h.Seq - 1, 1, 0, 40} {
			tryHear(t, c.name, c.h, seq, wrote(1), api.Hand{}, c.want)
			for _, w := range wrongAnswers() {
				tryHear(t, c.name, c.h, seq, w.a, api.Hand{}, c.want)
			}
		}
	}
}

// A wrong answer is told so whether it is waited for or not.
func TestHearSaysTheAnswersErrorNext(t *testing.T) {
	for _, h := range hands() {
		for _, w := range wrongAnswers() {
			for _, seq := range []int{h.Seq, h.Seq - 1, h.Seq + 1, 0, -1, 41, math.MaxInt} {
				tryHear(t, "a wrong answer", h, seq, w.a, api.Hand{}, w.want)
			}
		}
	}
}

// P9.2: one after the other

// All that may be asked, each answered; nothing more behind it.
func TestUpToTheLastNumber(t *testing.T) {
	h := api.Hand{}
	var got []api.Answer
	for i := range api.MaxSeq {
		c, a := command(texts[i%len(texts)]), answers()[i%len(answers())]
		tryAsk(t, "in turn", h, c, api.Hand{Seq: i + 1, Waits: true, C: c, Got: got}, api.OK)
		h, _ = hand.Ask(h, c)
		tryAsk(t, "it waits", h, c, api.Hand{}, api.ErrLate)
		got = append(got, a)
		tryHear(t, "in turn", h, i+1, a, api.Hand{Seq: i + 1, Got: got}, api.OK)
		h, _ = hand.Hear(h, i+1, a)
		for seq := range 42 {
			tryHear(t, "again, late and early", h, seq, wrote(5), h, api.OK)
		}
	}
	for _, text := range texts {
		tryAsk(t, "one more", h, command(text), api.Hand{}, api.ErrMany)
	}
	for _, w := range wrongCmds() {
		tryAsk(t, "one more, a wrong one", h, w.c, api.Hand{}, w.want)
	}
}

// The last number that there may be: till it is answered it waits, and then no more may be.
func TestTheLastNumber(t *testing.T) {
	c := command("append 1 5")
	h, e := hand.Ask(idle(39), c)
	if e != api.OK || h.Seq != 40 || !h.Waits {
		t.Fatalf("%v %d", h, e)
	}
	tryAsk(t, "it waits for the last one", h, c, api.Hand{}, api.ErrLate)
	tryHear(t, "the one ahead of it", h, 39, wrote(1), h, api.OK)
	tryHear(t, "one more", h, 41, wrote(1), h, api.OK)
	h, e = hand.Hear(h, 40, wrote(2))
	if e != api.OK || h.Waits || len(h.Got) != 40 || !sameAnswer(h.Got[39], wrote(2)) {
		t.Fatalf("%v %d", h, e)
	}
	tryAsk(t, "no more may be", h, c, api.Hand{}, api.ErrMany)
	tryHear(t, "the last one again", h, 40, wrote(3), h, api.OK)
}

// An answer that comes twice, or late, or early: the first one that is waited for is kept.
func TestTheFirstAnswerIsKept(t *testing.T) {
	first, second := command("append 1 5"), command("read 1 0 1")
	h, _ := hand.Ask(api.Hand{}, first)
	for _, s := range []struct {
		seq  int
		a    api.Answer
		want []api.Answer
	}{
		{2, wrote(1), nil}, {0, wrote(2), nil}, {-1, wrote(3), nil},
		{1, wrote(4), []api.Answer{wrote(4)}},
		{1, wrote(5), []api.Answer{wrote(4)}}, {1, fail(api.ErrKey), []api.Answer{wrote(4)}}, {2, wrote(6), []api.Answer{wrote(4)}},
	} {
		next, e := hand.Hear(h, s.seq, s.a)
		if e != api.OK || !slices.EqualFunc(next.Got, s.want, sameAnswer) || next.Waits != (len(s.want) == 0) {
			t.Fatalf("%v hears %d %v: %v %d, want %v", h, s.seq, s.a, next, e, s.want)
		}
		h = next
	}
	h, _ = hand.Ask(h, second)
	tryHear(t, "the first one once more", h, 1, wrote(7), h, api.OK)
	tryHear(t, "the second one", h, 2, read(5), api.Hand{Seq: 2, Got: []api.Answer{wrote(4), read(5)}}, api.OK)
}

// Seven calls in every order, against what each must make: two commands, and answers, no two alike, by each of four numbers.
func TestCallsInEveryOrder(t *testing.T) {
	commands := []api.Cmd{command("append 1 5"), command("clear")}
	var grow func(h api.Hand, left int)
	grow = func(h api.Hand, left int) {
		if left == 0 {
			return
		}
		for _, c := range commands {
			if h.Waits {
				tryAsk(t, "it waits", h, c, api.Hand{}, api.ErrLate)
				continue
			}
			tryAsk(t, "it doesn't wait", h, c, asks(h, c), api.OK)
			next, _ := hand.Ask(h, c)
			grow(next, left-1)
		}
		for seq := range 4 {
			a, want := wrote(left), h
			if h.Waits && h.Seq == seq {
				want = hears(h, a)
			}
			tryHear(t, "any number", h, seq, a, want, api.OK)
			next, _ := hand.Hear(h, seq, a)
			grow(next, left-1)
		}
	}
	grow(api.Hand{}, 7)
}

// Long runs of any calls, till a hand has asked all that it may.
func TestLongRun(t *testing.T) {
	seed := uint32(7)
	pick := func(n int) int {
		seed = seed*1664525 + 1013904223
		return int(seed>>16) % n
	}
	for range 40 {
		h := api.Hand{}
		for range 1200 {
			c, a := command(texts[pick(len(texts))]), answers()[pick(len(answers()))]
			if pick(2) == 0 {
				want, e := asks(h, c), api.OK
				if h.Waits {
					want, e = api.Hand{}, api.ErrLate
				} else if h.Seq == api.MaxSeq {
					want, e = api.Hand{}, api.ErrMany
				}
				tryAsk(t, "long run", h, c, want, e)
				if e == api.OK {
					h, _ = hand.Ask(h, c)
				}
				continue
			}
			seq, want := h.Seq+pick(5)-2, h
			if h.Waits && h.Seq == seq {
				want = hears(h, a)
			}
			tryHear(t, "long run", h, seq, a, want, api.OK)
			h, _ = hand.Hear(h, seq, a)
		}
		if len(h.Got) != api.MaxSeq {
			t.Errorf("it got %d", len(h.Got))
		}
	}
}

// P2 of the document: what is handed in is only read, what is answered is new memory.

// lists: all lists of numbers of a hand, and these.
func lists(h api.Hand, more ...[]int) [][]int {
	out := append(more, h.C.Data)
	for _, a := range h.Got {
		out = append(out, a.Data)
	}
	return out
}

// roomy copies l; there is room to spare behind it.
func roomy(l []int) []int { return append(slices.Clone(l), 51, 52, 53)[:len(l)] }

// roomyHand copies a hand: there is room to spare behind each list of it.
func roomyHand(h api.Hand) api.Hand {
	next := h
	next.C.Data, next.Got = roomy(h.C.Data), nil
	for _, a := range h.Got {
		a.Data = roomy(a.Data)
		next.Got = append(next.Got, a)
	}
	next.Got = append(next.Got, read(61, 62), wrote(6), fail(api.ErrTorn))[:len(h.Got)]
	return next
}

// withRoom tells a hand, lists of numbers, and the room to spare behind all their lists.
func withRoom(h api.Hand, more ...[]int) string {
	s := fmt.Sprint(h, h.Got[:cap(h.Got)])
	for _, l := range lists(h, more...) {
		s += fmt.Sprint(l[:cap(l)])
	}
	return s
}

func scribble(l []int) {
	l = l[:cap(l)]
	for i := range l {
		l[i] = -9
	}
}

// scribbleHand writes over a hand, and the room to spare behind its lists.
func scribbleHand(h api.Hand) {
	for _, l := range lists(h) {
		scribble(l)
	}
	for i := range h.Got[:cap(h.Got)] {
		h.Got[:cap(h.Got)][i] = wrote(-9)
	}
}

// call: one of Ask and Hear.
type call struct {
	name string
	do   func(h api.Hand, data []int) (api.Hand, api.Errno)
}

// calls that have a list besides the hand's.
func calls() []call {
	ask := func(kind, at int) func(api.Hand, []int) (api.Hand, api.Errno) {
		return func(h api.Hand, data []int) (api.Hand, api.Errno) {
			return hand.Ask(h, api.Cmd{Kind: kind, At: at, Data: data})
		}
	}
	hear := func(behind int, e api.Errno) func(api.Hand, []int) (api.Hand, api.Errno) {
		return func(h api.Hand, data []int) (api.Hand, api.Errno) {
			return hand.Hear(h, h.Seq+behind, api.Answer{E: e, Data: data})
		}
	}
	return []call{
		{"ask", ask(api.CAppend, 0)}, {"ask for a write", ask(api.CWrite, 7)}, {"a wrong command", ask(api.CClear, 0)},
		{"hear", hear(0, api.OK)}, {"hear too early", hear(1, api.OK)}, {"hear too late", hear(-1, api.OK)}, {"a wrong answer", hear(0, api.ErrKey)},
	}
}

// eachCall goes through hands, some of them wrong, calls and data; all of it has room to spare.
func eachCall(do func(h api.Hand, c call, data []int)) {
	l := few()
	for i, w := range wrongs() {
		if i%10 == 0 {
			l = append(l, w.h)
		}
	}
	for _, h := range l {
		for _, c := range calls() {
			for _, data := range [][]int{nil, {5}, many(8, 7), many(9, 1), {-1}} {
				do(roomyHand(h), c, roomy(data))
			}
		}
	}
}

func TestHandedInIsOnlyReadAndAnsweredIsNew(t *testing.T) {
	eachCall(func(h api.Hand, c call, data []int) {
		before := withRoom(h, data)
		next, _ := c.do(h, data)
		answered := fmt.Sprint(next)
		again, _ := c.do(h, data)
		hand.Check(h)
		hand.Same(h, h)
		if after := withRoom(h, data); after != before {
			t.Errorf("%s: %s, was %s", c.name, after, before)
		}
		scribbleHand(h)
		scribble(data)
		if fmt.Sprint(next) != answered {
			t.Errorf("%s: what was handed in is kept: %v, was %s", c.name, next, answered)
		}
		scribbleHand(next)
		if fmt.Sprint(again) != answered {
			t.Errorf("%s: two answers share memory: %v, was %s", c.name, again, answered)
		}
	})
}

func TestListsOfAnAnswerShareNothing(t *testing.T) {
	eachCall(func(h api.Hand, c call, data []int) {
		next, _ := c.do(h, data)
		all := lists(next)
		for i := range all {
			others := slices.Concat(all[:i], all[i+1:])
			before := fmt.Sprint(others)
			scribble(all[i])
			if after := fmt.Sprint(others); after != before {
				t.Fatalf("%s: %s, was %s", c.name, after, before)
			}
		}
	})
}

// What comes of one hand twice is two hands: neither is written over by the other.
func TestTwoWaysFromOneHand(t *testing.T) {
	h := roomyHand(waiting(3, "append 1 5 6"))
	a, _ := hand.Hear(h, 3, read(1, 2))
	b, _ := hand.Hear(h, 3, read(3, 4))
	x, _ := hand.Ask(a, command("append 1 7"))
	y, _ := hand.Ask(a, command("append 1 8"))
	p, _ := hand.Hear(x, 4, wrote(1))
	q, _ := hand.Hear(x, 4, wrote(2))
	for _, c := range []struct {
		name string
		a, b api.Hand
	}{
		{"the hand", h, waiting(3, "append 1 5 6")},
		{"one answer", a, hears(h, read(1, 2))},
		{"the other answer", b, hears(h, read(3, 4))},
		{"one command", x, asks(a, command("append 1 7"))},
		{"the other command", y, asks(a, command("append 1 8"))},
		{"one more answer", p, hears(x, wrote(1))},
		{"the other one", q, hears(x, wrote(2))},
	} {
		if !alike(c.a, c.b) {
			t.Errorf("%s: %v, want %v", c.name, c.a, c.b)
		}
	}
}

// One list may be handed in for the command, the answers and the data.
func TestHandedInMayShare(t *testing.T) {
	list := []int{5, 6, 7, 80, 81, 82}
	l := append([]api.Answer{read(list[:3]...), read(list[1:3]...)}, wrote(4))[:2]
	l[0].Data, l[1].Data = list[:3], list[1:3]
	h := api.Hand{Seq: 3, Waits: true, C: api.Cmd{Kind: api.CAppend, Data: list[:2]}, Got: l}
	next, e := hand.Hear(h, 3, api.Answer{Data: list[:3]})
	if want := []api.Answer{read(5, 6, 7), read(6, 7), read(5, 6, 7)}; e != api.OK || !slices.EqualFunc(next.Got, want, sameAnswer) {
		t.Errorf("%v %d", next, e)
	}
	scribbleHand(next)
	late, e := hand.Hear(h, 2, api.Answer{Data: list[:3]})
	if e != api.OK || !alike(late, h) {
		t.Errorf("%v %d", late, e)
	}
	scribbleHand(late)
	asked, e := hand.Ask(api.Hand{Seq: 2, C: api.Cmd{Data: list[:0]}, Got: l}, api.Cmd{Kind: api.CAppend, Data: list[1:3]})
	if e != api.OK || !slices.Equal(asked.C.Data, []int{6, 7}) || !alike(api.Hand{Got: asked.Got}, api.Hand{Got: l}) {
		t.Errorf("%v %d", asked, e)
	}
	scribbleHand(asked)
	if !slices.Equal(list, []int{5, 6, 7, 80, 81, 82}) || !sameAnswer(l[:3][2], wrote(4)) {
		t.Errorf("handed in: %v %v", list, l[:3])
	}
}
