package world_test

import (
	"fmt"
	"math"
	"slices"
	"testing"

	"quayhand/api"
	"quayhand/hall"
	"quayhand/world"
)

// P10.1

func TestNew(t *testing.T) {
	want := api.World{H: hall.New(), Up: true, Hand: make([]api.Hand, 3)}
	a, b := world.New(), world.New()
	if !alike(a, want) || world.Check(a) != api.OK {
		t.Errorf("%v", a)
	}
	scribbleWorld(a)
	if !alike(b, want) || !alike(world.New(), want) {
		t.Error("two worlds share memory")
	}
}

// fault: what is done to a world, and what is wrong with it then; OK: nothing.
type fault struct {
	name  string
	spoil func(w *api.World)
	want  api.Errno
}

// base: a right world that is up, with records, three hands of which one waits, and mail both ways.
func base() api.World {
	m := newModel().script(ask(0, "append 1 5 6"), hear(0), ask(1, "read 1 0 1"), twice(1), hear(0), ask(2, "register 5"), hear(2))
	m = m.script(ask(0, "clear"))
	return m.world()
}

func TestTheBaseHasAll(t *testing.T) {
	w := base()
	ways := [2]int{}
	for _, l := range w.Mail {
		if l.Back {
			ways[1]++
		} else {
			ways[0]++
		}
	}
	if world.Check(w) != api.OK || len(w.D.Safe) == 0 || !w.Hand[0].Waits || len(w.Hand[0].Got) == 0 || ways != [2]int{2, 2} {
		t.Errorf("%v", w)
	}
}

// mail lets this be the mail at place n.
func mail(n int, m api.Mail) func(w *api.World) {
	return func(w *api.World) { w.Mail[n] = m }
}

// mails lets there be n of this mail.
func mails(n int, m api.Mail) func(w *api.World) {
	return func(w *api.World) { w.Mail = slices.Repeat([]api.Mail{m}, n) }
}

// hands lets there be n hands like this.
func hands(n int, h api.Hand) func(w *api.World) {
	return func(w *api.World) { w.Hand = slices.Repeat([]api.Hand{h}, n) }
}

// handAt lets this be hand who.
func handAt(who int, h api.Hand) func(w *api.World) {
	return func(w *api.World) { w.Hand[who] = h }
}

// safe lets this be all that is safe. waits lets it wait, and the world be up or not.
func safe(text string) func(w *api.World) {
	return func(w *api.World) { w.D.Safe = []byte(text) }
}

func waits(text string, up bool) func(w *api.World) {
	return func(w *api.World) { w.D.Wait, w.Up = []byte(text), up }
}

// off: the power goes.
func off(w *api.World) { w.Up, w.H = false, hall.New() }

func both(a, b func(w *api.World)) func(w *api.World) {
	return func(w *api.World) { a(w); b(w) }
}

// steps: parts of a world, in the order in which what is wrong with them is told, with faults of each. Those of two parts may be done to one world, the later part first.
func steps() [][]fault {
	return [][]fault{handsFaults(), mailsFaults(), mailFaults(), diskFaults(), waitFaults(), replayFaults(), hallFaults(), handFaults()}
}

func handsFaults() []fault {
	return []fault{
		{"no hands", hands(0, api.Hand{}), api.ErrForm},
		{"too few hands", func(w *api.World) { w.Hand = w.Hand[:2] }, api.ErrForm},
		{"one hand more", func(w *api.World) { w.Hand = append(w.Hand, api.Hand{}) }, api.ErrForm},
		{"far too many hands", hands(300, api.Hand{}), api.ErrForm},
		{"too many hands, all wrong", hands(4, api.Hand{Seq: -1}), api.ErrForm},
	}
}

func mailsFaults() []fault {
	long := func(n int) func(w *api.World) {
		return func(w *api.World) {
			for len(w.Mail) < n {
				w.Mail = append(w.Mail, there(0, 1, "clear"))
			}
		}
	}
	return []fault{
		{"one mail more than may be", long(31), api.ErrMany},
		{"far too much mail", long(500), api.ErrMany},
		{"too much mail, all wrong", mails(31, api.Mail{Who: -1}), api.ErrMany},
	}
}

// wrongCmds: commands, and what is wrong with them.
func wrongCmds() []struct {
	c    api.Cmd
	want api.Errno
} {
	return []struct {
		c    api.Cmd
		want api.Errno
	}{
		{api.Cmd{}, api.ErrForm},
		{api.Cmd{Kind: -1}, api.ErrForm},
		{api.Cmd{Kind: 13}, api.ErrForm},
		{api.Cmd{Kind: math.MaxInt}, api.ErrForm},
		{api.Cmd{Kind: math.MinInt}, api.ErrForm},
		{api.Cmd{Data: []int{1}}, api.ErrForm},
		{api.Cmd{Kind: api.CClear, N: 1}, api.ErrForm},
		{api.Cmd{Kind: api.CAppend}, api.ErrForm},
		{api.Cmd{Kind: api.CAppend, Data: many(9, 1)}, api.ErrMany},
		{api.Cmd{Kind: api.COpen, Z: 1000}, api.ErrRange},
		{api.Cmd{Kind: api.CRead, N: -1}, api.ErrRange},
		{api.Cmd{Kind: api.CAppend, Data: []int{0, 1000}}, api.ErrRange},
	}
}

// wrongAnswers: answers, and what is wrong with them.
func wrongAnswers() []struct {
	a    api.Answer
	want api.Errno
} {
	return []struct {
		a    api.Answer
		want api.Errno
	}{
		{fail(-1), api.ErrRange},
		{fail(10), api.ErrRange},
		{wrote(-1), api.ErrRange},
		{wrote(8), api.ErrRange},
		{wrote(math.MaxInt), api.ErrRange},
		{read(many(9, 1)...), api.ErrMany},
		{read(1, 1000), api.ErrRange},
		{api.Answer{E: api.ErrKey, At: 1}, api.ErrForm},
		{api.Answer{E: api.ErrLate, Data: []int{0}}, api.ErrForm},
	}
}

// wrongMail: mail, and what is wrong with it, which one comes first where there are several.
func wrongMail() []struct {
	m    api.Mail
	want api.Errno
} {
	type wrong = struct {
		m    api.Mail
		want api.Errno
	}
	var out []wrong
	for _, who := range []int{-1, 3, math.MinInt, math.MaxInt} {
		out = append(out, wrong{there(who, 1, "clear"), api.ErrRange}, wrong{back(who, 1, wrote(1)), api.ErrRange})
		out = append(out, wrong{api.Mail{Who: who, Seq: 1}, api.ErrRange}, wrong{api.Mail{Back: true, Who: who, Seq: 1, C: command("clear")}, api.ErrRange})
	}
	for _, seq := range []int{-1, 0, 41, math.MinInt, math.MaxInt} {
		out = append(out, wrong{there(1, seq, "clear"), api.ErrRange}, wrong{back(1, seq, wrote(1)), api.ErrRange})
		out = append(out, wrong{back(1, seq, read(many(9, 1)...)), api.ErrRange}, wrong{api.Mail{Who: 1, Seq: seq, C: command("clear"), A: wrote(1)}, api.ErrRange})
	}
	for _, c := range wrongCmds() {
		out = append(out, wrong{api.Mail{Who: 2, Seq: 40, C: c.c}, c.want})
		for _, a := range append(wrongAnswers(), wrongAnswers()[0]) {
			out = append(out, wrong{api.Mail{Who: 2, Seq: 40, C: c.c, A: a.a}, api.ErrForm})
		}
		if c.c.Kind != 0 || len(c.c.Data) > 0 {
			out = append(out, wrong{api.Mail{Back: true, Seq: 1, C: c.c, A: wrote(2)}, api.ErrForm})
		}
	}
	for _, a := range wrongAnswers() {
		out = append(out, wrong{back(2, 40, a.a), a.want}, wrong{api.Mail{Who: 1, Seq: 1, C: command("clear"), A: a.a}, api.ErrForm})
		out = append(out, wrong{api.Mail{Back: true, Who: 1, Seq: 1, C: command("clear"), A: a.a}, api.ErrForm})
	}
	for _, a := range []api.Answer{fail(api.ErrText), fail(api.ErrTorn), wrote(1), wrote(7), read(0), read(5, 6)} {
		out = append(out, wrong{api.Mail{Who: 1, Seq: 1, C: command("append 1 5"), A: a}, api.ErrForm})
	}
	for _, c := range []api.Cmd{{Kind: 1}, {Z: 1}, {N: -1}, {At: 1}, {Data: []int{0}}, command("append 1 5")} {
		out = append(out, wrong{api.Mail{Back: true, Who: 1, Seq: 1, C: c}, api.ErrForm})
	}
	return out
}

func mailFaults() []fault {
	out := []fault{{"mail that is zero", mail(0, api.Mail{}), api.ErrRange}}
	for i, w := range wrongMail() {
		out = append(out, fault{fmt.Sprint("mail ", w.m), mail(i%4, w.m), w.want})
	}
	return out
}

func diskFaults() []fault {
	behind := func(text string) func(w *api.World) {
		return func(w *api.World) { w.D.Safe = append(slices.Clone(w.D.Safe), text...) }
	}
	ahead := func(text string) func(w *api.World) {
		return func(w *api.World) { w.D.Safe = append([]byte(text), w.D.Safe...) }
	}
	return []fault{
		{"torn", behind("0 4: clear"), api.ErrTorn},
		{"torn at once", behind("x"), api.ErrTorn},
		{"no record", ahead("stop\n"), api.ErrText},
		{"an empty line", ahead("\n"), api.ErrText},
		{"no command", ahead("0 1: stop\n"), api.ErrText},
		{"no data", ahead("0 1: append 1\n"), api.ErrText},
		{"a hand that there isn't", ahead("3 1: clear\n"), api.ErrRange},
		{"a number that there isn't", ahead("0 41: clear\n"), api.ErrRange},
		{"too much data", ahead("0 1: append 1 1 2 3 4 5 6 7 8 9\n"), api.ErrMany},
		{"too many records", safe(string(slices.Repeat([]byte("0 1: clear\n"), 81))), api.ErrMany},
		{"too many bytes", safe(string(many8(60001))), api.ErrMany},
		{"too many bytes wait", func(w *api.World) { w.D.Wait = many8(60001) }, api.ErrMany},
		{"too many bytes in all", func(w *api.World) { w.D.Wait = many8(60001 - len(w.D.Safe)) }, api.ErrMany},
	}
}

// many8: n bytes.
func many8(n int) []byte { return slices.Repeat([]byte{'x'}, n) }

func waitFaults() []fault {
	return []fault{
		{"a byte waits", waits("x", true), api.ErrForm},
		{"a line feed waits", waits("\n", true), api.ErrForm},
		{"a record waits", waits("0 2: clear\n", true), api.ErrForm},
		{"much waits", func(w *api.World) { w.D.Wait, w.Up = many8(59000), true }, api.ErrForm},
	}
}

func replayFaults() []fault {
	up := func(text string) func(w *api.World) {
		return both(safe(text), func(w *api.World) { w.Up = true })
	}
	return []fault{
		{"too early at the begin", up("0 2: clear\n"), api.ErrLate},
		{"too early", up("0 1: clear\n1 1: clear\n0 3: clear\n"), api.ErrLate},
		{"too late", up("0 1: clear\n0 2: clear\n0 1: clear\n"), api.ErrLate},
		{"the last of as many as may be", up(string(slices.Repeat([]byte("0 1: clear\n"), 79)) + "1 2: clear\n"), api.ErrLate},
	}
}

// hallFaults: the hall isn't what the records make; some of these halls are right, some aren't.
func hallFaults() []fault {
	return []fault{
		{"no hall", func(w *api.World) { w.H = api.Hall{} }, api.ErrForm},
		{"a hall of other records", func(w *api.World) { w.H, _ = hall.Replay([]api.Rec{{Who: 2, Seq: 1, C: command("open 3")}}) }, api.ErrForm},
		{"a state", func(w *api.World) { w.H.D.Zones[2].State = api.Full }, api.ErrForm},
		{"a state that there isn't", func(w *api.World) { w.H.D.Zones[2].State = 9 }, api.ErrForm},
		{"a block more", func(w *api.World) { w.H.D.Zones[1] = api.Zone{State: api.Full, Data: []int{5, 6, 7}} }, api.ErrForm},
		{"far too many blocks", func(w *api.World) { w.H.D.Zones[3].Data = many(9, 1) }, api.ErrForm},
		{"a zone less", func(w *api.World) { w.H.D.Zones = w.H.D.Zones[:3] }, api.ErrForm},
		{"all zones open", func(w *api.World) { w.H.D.Zones = slices.Repeat([]api.Zone{{State: api.Open}}, 4) }, api.ErrForm},
		{"a key", func(w *api.World) { w.H.D.B.Keys[0]++ }, api.ErrForm},
		{"a key that may not be", func(w *api.World) { w.H.D.B.Keys[0] = 10 }, api.ErrForm},
		{"a holder", func(w *api.World) { w.H.D.B.Holder++ }, api.ErrForm},
		{"a type", func(w *api.World) { w.H.D.B.Type++ }, api.ErrForm},
		{"a number", func(w *api.World) { w.H.Last[1].Seq++ }, api.ErrForm},
		{"a number that may not be", func(w *api.World) { w.H.Last[1].Seq = 41 }, api.ErrForm},
		{"an answer's E", func(w *api.World) { w.H.Last[2].A.E = api.ErrFull }, api.ErrForm},
		{"an answer's At", func(w *api.World) { w.H.Last[0].A.At++ }, api.ErrForm},
		{"an answer that may not be", func(w *api.World) { w.H.Last[0].A.At = 8 }, api.ErrForm},
		{"an answer's Data", func(w *api.World) { w.H.Last[1].A.Data = append(w.H.Last[1].A.Data, 6) }, api.ErrForm},
		{"a Last less", func(w *api.World) { w.H.Last = w.H.Last[:2] }, api.ErrForm},
	}
}

func handFaults() []fault {
	var out []fault
	add := func(name string, h api.Hand, want api.Errno) {
		for who := range 3 {
			out = append(out, fault{fmt.Sprint(name, ", hand ", who), handAt(who, h), want})
		}
	}
	add("a number", api.Hand{Seq: -1}, api.ErrRange)
	add("a number too great", api.Hand{Seq: 41}, api.ErrRange)
	add("a number without an answer", api.Hand{Seq: 1}, api.ErrForm)
	add("an answer without a number", api.Hand{Got: []api.Answer{wrote(1)}}, api.ErrForm)
	add("a command that it doesn't wait for", api.Hand{C: command("clear")}, api.ErrForm)
	add("waits for nothing", api.Hand{Seq: 1, Waits: true}, api.ErrForm)
	for _, c := range wrongCmds() {
		add("waits for a wrong command", api.Hand{Seq: 1, Waits: true, C: c.c}, c.want)
	}
	for _, a := range wrongAnswers() {
		add("a wrong answer", api.Hand{Seq: 2, Got: []api.Answer{wrote(1), a.a}}, a.want)
	}
	return out
}

// wrongs: worlds with one fault.
func wrongs() []fault { return slices.Concat(steps()...) }

func TestCheckErrors(t *testing.T) {
	for _, c := range wrongs() {
		w := base()
		c.spoil(&w)
		if e := world.Check(w); e != c.want {
			t.Errorf("%s: %d, want %d", c.name, e, c.want)
		}
	}
	if e := world.Check(api.World{}); e != api.ErrForm {
		t.Errorf("zero: %d", e)
	}
	w := base()
	w.D.Wait = many8(60000 - len(w.D.Safe))
	if e := world.Check(w); e != api.ErrForm {
		t.Errorf("up, and as much waits as may be: %d", e)
	}
}

// Of two faults of two parts the one of the part that is told first is the answer.
func TestCheckWhichIsFirst(t *testing.T) {
	l := steps()
	for i := range l {
		for _, c := range l[i] {
			for _, d := range slices.Concat(l[i+1:]...) {
				w := base()
				d.spoil(&w)
				c.spoil(&w)
				if e := world.Check(w); e != c.want {
					t.Errorf("%s, and %s: %d, want %d", c.name, d.name, e, c.want)
				}
			}
		}
	}
}

// Of two wrong mails the first one is told, of two wrong hands the first one.
func TestCheckWhichOfTwoIsFirst(t *testing.T) {
	for at := range 30 {
		for i, a := range wrongMail() {
			b := wrongMail()[(i*7+at)%len(wrongMail())]
			w := newModel().world()
			mails(30, there(0, 40, "clear"))(&w)
			w.Mail[at] = a.m
			if e := world.Check(w); e != a.want {
				t.Errorf("mail %d: %v: %d, want %d", at, a.m, e, a.want)
			}
			if at == 29 {
				continue
			}
			w.Mail[29] = b.m
			if e := world.Check(w); e != a.want {
				t.Errorf("mail %d: %v, then %v: %d, want %d", at, a.m, b.m, e, a.want)
			}
		}
	}
	for i, c := range handFaults() {
		for k, d := range handFaults() {
			w := base()
			d.spoil(&w)
			c.spoil(&w)
			if e := world.Check(w); i%3 < k%3 && e != c.want {
				t.Errorf("%s, then %s: %d, want %d", c.name, d.name, e, c.want)
			}
		}
	}
}

// Who and Seq of mail, each with each, there and back.
func TestCheckOfEachNumberOfMail(t *testing.T) {
	for who := -2; who <= 5; who++ {
		for seq := -3; seq <= 45; seq++ {
			for _, m := range []api.Mail{there(who, seq, "append 1 5"), back(who, seq, wrote(7))} {
				want := api.OK
				if who < 0 || who > 2 || seq < 1 || seq > 40 {
					want = api.ErrRange
				}
				w := newModel().world()
				w.Mail = []api.Mail{m}
				if e := world.Check(w); e != want {
					t.Errorf("%v: %d, want %d", m, e, want)
				}
			}
		}
	}
}

func TestCheckOfEachNumberOfHandsAndMails(t *testing.T) {
	for n := range 40 {
		w, v := base(), base()
		mails(n, back(2, 7, fail(api.ErrTorn)))(&w)
		hands(n, api.Hand{})(&v)
		many, form := api.OK, api.OK
		if n > 30 {
			many = api.ErrMany
		}
		if n != 3 {
			form = api.ErrForm
		}
		if e, f := world.Check(w), world.Check(v); e != many || f != form {
			t.Errorf("%d mails: %d, want %d; %d hands: %d, want %d", n, e, many, n, f, form)
		}
	}
}

// rightOnes: what may be done to the base without harm: hands, mail and hall needn't know of each other.
func rightOnes() []fault {
	out := []fault{
		{"nothing", func(*api.World) {}, api.OK},
		{"off", off, api.OK},
		{"no mail", mails(0, api.Mail{}), api.OK},
		{"as much mail as may be", mails(30, there(2, 40, "read 999 0 0")), api.OK},
		{"hands that asked nothing", hands(3, api.Hand{}), api.OK},
		{"hands that asked all", hands(3, api.Hand{Seq: 40, Got: make([]api.Answer, 40)}), api.OK},
		{"hands that wait for the last", hands(3, api.Hand{Seq: 40, Waits: true, C: command("clear"), Got: make([]api.Answer, 39)}), api.OK},
		{"mail whose lists are empty, not nil", mail(0, api.Mail{Who: 1, Seq: 1, C: api.Cmd{Kind: api.CClear, Data: []int{}}, A: api.Answer{Data: []int{}}}), api.OK},
		{"mail back whose lists are empty, not nil", mail(0, api.Mail{Back: true, Who: 1, Seq: 1, C: api.Cmd{Data: []int{}}, A: api.Answer{E: api.ErrKey, Data: []int{}}}), api.OK},
		{"mail back, and an answer that is zero", mail(0, back(0, 1, api.Answer{})), api.OK},
		{"a disk whose lists are empty, not nil", func(w *api.World) { w.D.Wait = []byte{} }, api.OK},
		{"off, and a record waits", both(off, waits("0 2: clear\n", false)), api.OK},
		{"off, and bytes wait", both(off, waits("0 2: cle", false)), api.OK},
		{"off, and anything waits", both(off, waits("\n\xff\n9 9", false)), api.OK},
		{"off, and as much waits as may be", both(off, func(w *api.World) { w.D.Wait = many8(60000 - len(w.D.Safe)) }), api.OK},
		{"off, and as many records as may be", both(off, safe(string(slices.Repeat([]byte("2 7: clear\n"), 80)))), api.OK},
		{"a record that came again", func(w *api.World) { w.D.Safe = append(slices.Clone(w.D.Safe), "2 1: open 3\n"...) }, api.OK},
		{"no records", both(safe(""), func(w *api.World) { w.H = hall.New() }), api.OK},
	}
	for _, c := range replayFaults() { // what the disk has isn't held against anything where the power is off
		out = append(out, fault{"off, and " + c.name, both(c.spoil, off), api.OK})
	}
	return out
}

func TestCheckOfRightOnes(t *testing.T) {
	for _, c := range rightOnes() {
		w := base()
		c.spoil(&w)
		if e := world.Check(w); e != api.OK {
			t.Errorf("%s: %d", c.name, e)
		}
	}
}

// A world that isn't up has a new hall, one that is up has that of its records: not the other way round.
func TestCheckOfUpAndOff(t *testing.T) {
	for _, n := range upWorlds() {
		w := n.m.world()
		known := !hall.Same(w.H, hall.New())
		w.Up = false
		want := api.OK
		if known {
			want = api.ErrForm
		}
		if e := world.Check(w); e != want {
			t.Errorf("%s, off, with its hall: %d, want %d", n.name, e, want)
		}
		w.Up, w.H = true, hall.New()
		if e := world.Check(w); e != want {
			t.Errorf("%s, with a new hall: %d, want %d", n.name, e, want)
		}
	}
}

// One thing is changed, of a world that has all of them.
func TestSameOfEachField(t *testing.T) {
	for _, c := range append(slices.Concat(steps()...), []fault{
		{"Up", func(w *api.World) { w.Up = false }, 0},
		{"a byte of Safe", func(w *api.World) { w.D.Safe[3]++ }, 0},
		{"a byte less of Safe", func(w *api.World) { w.D.Safe = w.D.Safe[:len(w.D.Safe)-1] }, 0},
		{"no Safe", func(w *api.World) { w.D.Safe = nil }, 0},
		{"Wait", func(w *api.World) { w.D.Wait = []byte{0} }, 0},
		{"Safe that waits", func(w *api.World) { w.D.Safe, w.D.Wait = nil, w.D.Safe }, 0},
		{"a hand's number", func(w *api.World) { w.Hand[1].Seq++ }, 0},
		{"a hand that waits no more", func(w *api.World) { w.Hand[0].Waits = false }, 0},
		{"what a hand waits for", func(w *api.World) { w.Hand[0].C.Z++ }, 0},
		{"what a hand got", func(w *api.World) { w.Hand[0].Got[0].At++ }, 0},
		{"hands the other way round", func(w *api.World) { slices.Reverse(w.Hand) }, 0},
		{"no hands", func(w *api.World) { w.Hand = nil }, 0},
		{"Back", func(w *api.World) { w.Mail[3].Back = !w.Mail[3].Back }, 0},
		{"Who", func(w *api.World) { w.Mail[0].Who++ }, 0},
		{"Seq", func(w *api.World) { w.Mail[0].Seq-- }, 0},
		{"C's Kind", func(w *api.World) { w.Mail[1].C.Kind++ }, 0},
		{"C's Z", func(w *api.World) { w.Mail[1].C.Z++ }, 0},
		{"C's N", func(w *api.World) { w.Mail[1].C.N++ }, 0},
		{"C's At", func(w *api.World) { w.Mail[1].C.At++ }, 0},
		{"C's Data", func(w *api.World) { w.Mail[1].C.Data = []int{0} }, 0},
		{"A's E", func(w *api.World) { w.Mail[2].A.E++ }, 0},
		{"A's At", func(w *api.World) { w.Mail[2].A.At-- }, 0},
		{"A's Data", func(w *api.World) { w.Mail[2].A.Data = []int{0} }, 0},
		{"a mail more", func(w *api.World) { w.Mail = append(w.Mail, api.Mail{}) }, 0},
		{"a mail less", func(w *api.World) { w.Mail = w.Mail[:3] }, 0},
		{"mail in another order", func(w *api.World) { slices.Reverse(w.Mail) }, 0},
		{"no mail", func(w *api.World) { w.Mail = nil }, 0},
	}...) {
		a, b := base(), base()
		if !world.Same(a, b) {
			t.Errorf("%s: %v and %v, which are alike", c.name, a, b)
		}
		c.spoil(&b)
		if world.Same(a, b) || world.Same(b, a) || !world.Same(b, b) {
			t.Errorf("%s: %v and %v", c.name, a, b)
		}
	}
}

func TestSame(t *testing.T) {
	l := worlds()
	for i, n := range l {
		for k, o := range l {
			if world.Same(n.m.world(), o.m.world()) != (i == k) {
				t.Errorf("%s and %s", n.name, o.name)
			}
		}
	}
}

func TestSameWhateverTheyAre(t *testing.T) {
	odd := func(last int) api.World {
		l := []api.Mail{{Back: true, Who: -3, Seq: 99, C: api.Cmd{Kind: 77, Data: many(30, 1000)}, A: api.Answer{E: -5, At: -8, Data: append(many(20, -1), last)}}}
		return api.World{H: api.Hall{Last: []api.Last{{Seq: -4}}}, D: api.Disk{Safe: []byte("?"), Wait: []byte("!")}, Hand: []api.Hand{{Seq: -1}}, Mail: l}
	}
	empty := api.World{D: api.Disk{Safe: []byte{}, Wait: []byte{}}, Hand: []api.Hand{}, Mail: []api.Mail{}}
	for _, c := range []struct {
		name string
		a, b api.World
		want bool
	}{
		{"zero", api.World{}, api.World{}, true},
		{"nil and empty", api.World{}, empty, true},
		{"nil and empty in mail", api.World{Mail: make([]api.Mail, 1)}, api.World{Mail: []api.Mail{{C: api.Cmd{Data: []int{}}, A: api.Answer{Data: []int{}}}}}, true},
		{"no mail, and one that is zero", api.World{}, api.World{Mail: make([]api.Mail, 1)}, false},
		{"no hands, and three that are zero", api.World{}, api.World{Hand: make([]api.Hand, 3)}, false},
		{"zero and new", api.World{}, world.New(), false},
		{"alike, but wrong", odd(-2), odd(-2), true},
		{"a value among many", odd(-2), odd(-3), false},
		{"up alone", api.World{Up: true}, api.World{}, false},
	} {
		if world.Same(c.a, c.b) != c.want || world.Same(c.b, c.a) != c.want {
			t.Errorf("%s: want %v", c.name, c.want)
		}
	}
}
