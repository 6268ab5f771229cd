package disk_test

import (
	"fmt"
	"math"
	"slices"
	"strings"
	"testing"

	"quayhand/api"
	"quayhand/disk"
	"quayhand/note"
)

// of: a disk with these texts.
func of(safe, wait string) api.Disk { return api.Disk{Safe: []byte(safe), Wait: []byte(wait)} }

// is: does d have these texts?
func is(d api.Disk, safe, wait string) bool {
	return string(d.Safe) == safe && string(d.Wait) == wait
}

// short tells d, but no more of it than a line of a test's report can take.
func short(d api.Disk) string { return fmt.Sprintf("%.60q %.60q", d.Safe, d.Wait) }

// some records, as their lines; of all kinds of commands, of all hands.
var some = []string{
	"0 1: clear\n", "1 1: open 3\n", "2 40: close 999\n", "0 2: finish 0\n", "1 2: reset 1\n",
	"1 3: append 2 7\n", "2 1: append 1 9 8 7 6 5 4 3 2\n", "0 3: write 1 2 3\n", "2 2: read 1 2 3\n",
	"0 4: register 7\n", "0 5: reserve 1\n", "1 4: release\n", "2 3: preempt 7\n",
}

// rec: the record of a line; it must be a right one.
func rec(line string) api.Rec {
	r, e := note.Parse(strings.TrimSuffix(line, "\n"))
	if e != api.OK {
		panic(fmt.Sprint(line, ": ", e))
	}
	return r
}

// lines: n lines, no two of them alike till there are 120.
func lines(n int) string {
	var b strings.Builder
	for i := range n {
		fmt.Fprintf(&b, "%d %d: open %d\n", i%api.MaxHands, i/api.MaxHands%api.MaxSeq+1, i)
	}
	return b.String()
}

// areOf: are these the records of the lines of text?
func areOf(l []api.Rec, text string) bool {
	return slices.EqualFunc(l, strings.SplitAfter(text, "\n")[:strings.Count(text, "\n")], func(r api.Rec, line string) bool {
		return note.Same(r, rec(line))
	})
}

// P7.1

// fault: a disk, and what is wrong with it; OK: nothing.
type fault struct {
	name       string
	safe, wait string
	want       api.Errno
}

// rights: disks with which nothing is wrong.
func rights() []fault {
	return []fault{
		{"zero", "", "", api.OK},
		{"a line", "0 2: clear\n", "", api.OK},
		{"lines of all kinds", strings.Join(some, ""), strings.Join(some, ""), api.OK},
		{"twice the same line", "0 2: clear\n0 2: clear\n", "", api.OK},
		{"numbers out of turn", "0 9: clear\n0 2: clear\n2 40: clear\n", "", api.OK},
		{"all lines that may be", lines(api.MaxLog), "", api.OK},
		{"more lines wait than may be", "", lines(api.MaxLog + 1), api.OK},
		{"all lines that may be, and more wait", lines(api.MaxLog), lines(40), api.OK},
		{"something torn waits", "0 2: clear\n", "0 3: cle", api.OK},
		{"a line that is none waits", "0 2: clear\n", "x\n", api.OK},
		{"any bytes wait", "", "\x00\xff\n\n\r\n 1: \n", api.OK},
		{"all bytes that may be, all wait", "", strings.Repeat("x", api.MaxText), api.OK},
		{"all bytes that may be", "0 2: clear\n", strings.Repeat("\n", api.MaxText-11), api.OK},
		{"all lines and all bytes that may be", lines(80), strings.Repeat("x", api.MaxText-len(lines(80))), api.OK},
	}
}

// wrongs: disks with one fault, and with several.
func wrongs() []fault {
	full := lines(api.MaxLog)
	odd := strings.Repeat("x", api.MaxText+1)
	const data = "0 1: append 1 1 2 3 4 5 6 7 8 9\n"
	return []fault{
		{"a byte too many waits", "", odd, api.ErrMany},
		{"a byte too many is safe", odd, "", api.ErrMany},
		{"a byte too many together", "0 2: clear\n", odd[:api.MaxText-10], api.ErrMany},
		{"far too many bytes", strings.Repeat(odd, 3), strings.Repeat(odd, 3), api.ErrMany},
		{"a whole record without a line feed", "0 2: clear", "", api.ErrTorn},
		{"a piece of one", "0 2:", "", api.ErrTorn},
		{"a byte", "0", "", api.ErrTorn},
		{"the last line is torn", "0 2: clear\n0 3: clear", "", api.ErrTorn},
		{"the end of a torn line waits", "0 2: cle", "ar\n", api.ErrTorn},
		{"the line feed of a torn line waits", "0 2: clear", "\n", api.ErrTorn},
		{"another line feed", "0 2: clear\r", "", api.ErrTorn},
		{"an empty line", "\n", "", api.ErrText},
		{"an empty line behind another", "0 2: clear\n\n", "", api.ErrText},
		{"an empty line ahead of another", "\n0 2: clear\n", "", api.ErrText},
		{"a line that is none", "x\n", "", api.ErrText},
		{"a byte too many in a line feed", "0 2: clear\r\n", "", api.ErrText},
		{"a blank at the end", "0 2: clear \n", "", api.ErrText},
		{"no word of a command", "0 2: stop\n", "", api.ErrText},
		{"zeros ahead", "0 02: clear\n", "", api.ErrText},
		{"two records in a line", "0 2: clear0 3: clear\n", "", api.ErrText},
		{"a zero byte", "0 2: clear\x00\n", "", api.ErrText},
		{"no such hand", "3 2: clear\n", "", api.ErrRange},
		{"no such number", "0 41: clear\n", "", api.ErrRange},
		{"a value in a command", "0 1: open 1000\n", "", api.ErrRange},
		{"too much Data in a command", data, "", api.ErrMany},
		{"a line too many", lines(api.MaxLog + 1), "", api.ErrMany},
		{"far too many lines", lines(3000), "", api.ErrMany},
		// Of several:
		{"bytes ahead of torn", "0 2: clear", odd[:api.MaxText], api.ErrMany},
		{"bytes ahead of no line", "x\n", odd[:api.MaxText], api.ErrMany},
		{"bytes ahead of no hand", "3 2: clear\n", odd[:api.MaxText], api.ErrMany},
		{"torn ahead of no line", "x", "", api.ErrTorn},
		{"torn ahead of no hand", "3 2: clear", "", api.ErrTorn},
		{"torn ahead of too much Data", strings.TrimSuffix(data, "\n"), "", api.ErrTorn},
		{"no line, then torn", "x\n0 2: clear", "", api.ErrText},
		{"no hand, then torn", "3 2: clear\n0 2: clear", "", api.ErrRange},
		{"no hand, then no line", "3 2: clear\nx\n", "", api.ErrRange},
		{"no line, then no hand", "x\n3 2: clear\n", "", api.ErrText},
		{"too much Data, then no line", data + "x\n", "", api.ErrMany},
		{"right, no hand, then no line", "0 1: clear\n3 2: clear\nx\n", "", api.ErrRange},
		{"a line too many is torn", full + "0 2: clear", "", api.ErrTorn},
		{"a line too many is none", full + "x\n", "", api.ErrText},
		{"a line too many has no hand", full + "3 2: clear\n", "", api.ErrRange},
		{"a line too many, then torn", full + "0 2: clear\n0", "", api.ErrMany},
		{"a line too many, then no line", full + "0 2: clear\nx\n", "", api.ErrMany},
		{"no line, then a line too many", "x\n" + full, "", api.ErrText},
		{"no hand, then a line too many", "0 41: clear\n" + full, "", api.ErrRange},
	}
}

func TestCheckErrorsAndWhichIsFirst(t *testing.T) {
	for _, c := range append(rights(), wrongs()...) {
		if e := disk.Check(of(c.safe, c.wait)); e != c.want {
			t.Errorf("%s: %d, want %d", c.name, e, c.want)
		}
	}
}

func TestCheckOfEachNumberOfLines(t *testing.T) {
	for n := range 2 * api.MaxLog {
		want := api.OK
		if n > 80 {
			want = api.ErrMany
		}
		if e := disk.Check(of(lines(n), "x")); e != want {
			t.Errorf("%d lines: %d, want %d", n, e, want)
		}
	}
}

// A beginning of what is right is torn, unless it ends where a line does.
func TestCheckOfEachBeginning(t *testing.T) {
	text := strings.Join(some, "")
	for n := range len(text) + 1 {
		want := api.ErrTorn
		if n == 0 || text[n-1] == '\n' {
			want = api.OK
		}
		if e := disk.Check(of(text[:n], text[n:])); e != want {
			t.Errorf("%q: %d, want %d", text[:n], e, want)
		}
	}
}

func TestSame(t *testing.T) {
	long := strings.Repeat("x", api.MaxText+5)
	for _, c := range []struct {
		name string
		a, b api.Disk
		want bool
	}{
		{"zero", api.Disk{}, api.Disk{}, true},
		{"nil and empty", api.Disk{}, of("", ""), true},
		{"alike", of("0 2: clear\n", "x"), of("0 2: clear\n", "x"), true},
		{"alike, but wrong", of("\xff", "x"), of("\xff", "x"), true},
		{"alike, but too many", of(long, long), of(long, long), true},
		{"spare room", of("ab", "cd"), api.Disk{Safe: []byte("abc")[:2], Wait: []byte("cde")[:2]}, true},
		{"Safe", of("a", "x"), of("b", "x"), false},
		{"Wait", of("a", "x"), of("a", "y"), false},
		{"Safe, less", of("ab", "x"), of("a", "x"), false},
		{"Wait, less", of("a", "xy"), of("a", "x"), false},
		{"no Safe", of("a", "x"), of("", "x"), false},
		{"no Wait", of("a", "x"), of("a", ""), false},
		{"the other way round", of("a", "x"), of("x", "a"), false},
		{"parted elsewhere", of("ab", "c"), of("a", "bc"), false},
		{"all safe, all waits", of("ab", ""), of("", "ab"), false},
		{"the last of many", of(long, long+"a"), of(long, long+"b"), false},
	} {
		if disk.Same(c.a, c.b) != c.want || disk.Same(c.b, c.a) != c.want {
			t.Errorf("%s: want %v", c.name, c.want)
		}
	}
}

// P7.2

// calls: all that answer a disk, each with something that is right, and with something that is wrong.
var calls = []struct {
	name string
	do   func(d api.Disk) (api.Disk, []api.Rec, api.Errno)
}{
	{"put", func(d api.Disk) (api.Disk, []api.Rec, api.Errno) { return alone(disk.Put(d, rec("0 1: clear"))) }},
	{"put of Data", func(d api.Disk) (api.Disk, []api.Rec, api.Errno) { return alone(disk.Put(d, rec("1 3: append 2 7 8"))) }},
	{"put of no record", func(d api.Disk) (api.Disk, []api.Rec, api.Errno) { return alone(disk.Put(d, api.Rec{})) }},
	{"put of no command", func(d api.Disk) (api.Disk, []api.Rec, api.Errno) { return alone(disk.Put(d, api.Rec{Seq: 1})) }},
	{"sync", func(d api.Disk) (api.Disk, []api.Rec, api.Errno) { return alone(disk.Sync(d)) }},
	{"crash, none", func(d api.Disk) (api.Disk, []api.Rec, api.Errno) { return alone(disk.Crash(d, 0)) }},
	{"crash, all", func(d api.Disk) (api.Disk, []api.Rec, api.Errno) { return alone(disk.Crash(d, len(d.Wait))) }},
	{"crash, half", func(d api.Disk) (api.Disk, []api.Rec, api.Errno) { return alone(disk.Crash(d, len(d.Wait)/2)) }},
	{"crash, less than none", func(d api.Disk) (api.Disk, []api.Rec, api.Errno) { return alone(disk.Crash(d, -1)) }},
	{"crash, more than all", func(d api.Disk) (api.Disk, []api.Rec, api.Errno) { return alone(disk.Crash(d, len(d.Wait)+1)) }},
	{"recover", disk.Recover},
}

// alone: a disk without records.
func alone(d api.Disk, e api.Errno) (api.Disk, []api.Rec, api.Errno) { return d, nil, e }

func TestAllSayChecksErrorFirst(t *testing.T) {
	for _, c := range wrongs() {
		for _, k := range calls {
			if d, l, e := k.do(of(c.safe, c.wait)); e != c.want || !is(d, "", "") || len(l) > 0 {
				t.Errorf("%s, %s: %s %d %d, want %d", c.name, k.name, short(d), len(l), e, c.want)
			}
		}
	}
}

// tryPut puts, and holds what is answered against what it must be.
func tryPut(t *testing.T, name string, d api.Disk, r api.Rec, safe, wait string, want api.Errno) {
	t.Helper()
	if got, e := disk.Put(d, r); e != want || !is(got, safe, wait) {
		t.Errorf("%s: %s %d, want %s %d", name, short(got), e, short(of(safe, wait)), want)
	}
}

func TestPutGoesBehindWait(t *testing.T) {
	for _, c := range rights() {
		for _, line := range some {
			if len(c.safe)+len(c.wait)+len(line) <= api.MaxText {
				tryPut(t, c.name+", "+line, of(c.safe, c.wait), rec(line), c.safe, c.wait+line, api.OK)
			}
		}
	}
}

func TestPutOfNoRecord(t *testing.T) {
	many := slices.Repeat([]int{1}, 9)
	for _, c := range []struct {
		name string
		r    api.Rec
		want api.Errno
	}{
		{"zero", api.Rec{}, api.ErrRange},
		{"Who", api.Rec{Who: 3, Seq: 1, C: api.Cmd{Kind: api.CClear}}, api.ErrRange},
		{"Seq", api.Rec{Seq: 41, C: api.Cmd{Kind: api.CClear}}, api.ErrRange},
		{"least", api.Rec{Who: math.MinInt, Seq: math.MinInt}, api.ErrRange},
		{"no kind", api.Rec{Seq: 1}, api.ErrForm},
		{"what it doesn't have", api.Rec{Seq: 1, C: api.Cmd{Kind: api.CClear, N: 1}}, api.ErrForm},
		{"no Data", api.Rec{Seq: 1, C: api.Cmd{Kind: api.CAppend}}, api.ErrForm},
		{"too much Data", api.Rec{Seq: 1, C: api.Cmd{Kind: api.CAppend, Data: many}}, api.ErrMany},
		{"a value", api.Rec{Seq: 1, C: api.Cmd{Kind: api.COpen, Z: 1000}}, api.ErrRange},
		{"Who ahead of no kind", api.Rec{Who: -1, Seq: 1}, api.ErrRange},
	} {
		for _, d := range rights() { // among them some without room: the record's error comes ahead of that
			tryPut(t, c.name+", "+d.name, of(d.safe, d.wait), c.r, "", "", c.want)
		}
	}
}

func TestPutHasRoomForSoManyBytes(t *testing.T) {
	const line = "0 3: clear\n"
	for _, safe := range []string{"", "0 2: clear\n", lines(api.MaxLog)} {
		for over := -2; over <= len(line); over++ {
			wait := strings.Repeat("x", api.MaxText-len(safe)-len(line)+over)
			if over <= 0 {
				tryPut(t, fmt.Sprint(over), of(safe, wait), rec(line), safe, wait+line, api.OK)
			} else {
				tryPut(t, fmt.Sprint(over), of(safe, wait), rec(line), "", "", api.ErrMany)
			}
		}
	}
}

// Put counts bytes alone: lines are counted where they are safe.
func TestPutTillNoByteIsLeft(t *testing.T) {
	d, line := of(lines(api.MaxLog), ""), "2 40: append 999 999 999 999 999 999 999 999 999\n"
	n := 0
	for {
		next, e := disk.Put(d, rec(line))
		if e != api.OK {
			if e != api.ErrMany || !is(next, "", "") {
				t.Errorf("%s %d", short(next), e)
			}
			break
		}
		d = next
		n++
	}
	if want := (api.MaxText - len(lines(api.MaxLog))) / len(line); n != want {
		t.Errorf("%d lines wait, want %d", n, want)
	}
	if !is(d, lines(api.MaxLog), strings.Repeat(line, n)) {
		t.Errorf("%s", short(d))
	}
}

func TestSync(t *testing.T) {
	const a, b = "0 2: clear\n", "1 1: open 3\n"
	for _, c := range []struct {
		name       string
		safe, wait string
		want       api.Errno
	}{
		{"nothing", "", "", api.OK},
		{"nothing waits", a, "", api.OK},
		{"nothing is safe", "", a, api.OK},
		{"both", a, b, api.OK},
		{"more than one", a + b, b + a + b, api.OK},
		{"all kinds", strings.Join(some, ""), strings.Join(some, ""), api.OK},
		{"up to all lines", lines(79), a, api.OK},
		{"all lines at once", "", lines(80), api.OK},
		{"all lines, and nothing waits", lines(80), "", api.OK},
		{"torn", a, "1 1: open 3", api.ErrTorn},
		{"torn behind a whole one", a, b + "0", api.ErrTorn},
		{"all bytes, torn", "", strings.Repeat("x", api.MaxText), api.ErrTorn},
		{"an empty line", a, "\n", api.ErrText},
		{"no line", a, "x\n", api.ErrText},
		{"no line behind a whole one", a, b + "x\n", api.ErrText},
		{"no line, then torn", a, "x\n0", api.ErrText},
		{"all bytes, no line", "", strings.Repeat("\n", api.MaxText), api.ErrText},
		{"no hand", a, "3 1: clear\n", api.ErrRange},
		{"too much Data", a, "0 1: append 1 1 2 3 4 5 6 7 8 9\n", api.ErrMany},
		{"a line too many", lines(80), a, api.ErrMany},
		{"a line too many at once", "", lines(81), api.ErrMany},
		{"a line too many is torn", lines(80), "0 2: clear", api.ErrTorn},
		{"a line too many is none", lines(80), "x\n", api.ErrText},
		{"a line too many, then torn", lines(80), a + "0", api.ErrMany},
		{"no line, then a line too many", lines(79), "x\n" + a, api.ErrText},
	} {
		safe := c.safe + c.wait
		if c.want != api.OK {
			safe = ""
		}
		got, e := disk.Sync(of(c.safe, c.wait))
		if e != c.want || !is(got, safe, "") {
			t.Errorf("%s: %s %d, want %s %d", c.name, short(got), e, short(of(safe, "")), c.want)
		}
	}
}

func TestCrashOfEachNumber(t *testing.T) {
	for _, c := range rights() {
		step := 1 + len(c.wait)/500
		for n := 0; n <= len(c.wait); n += step {
			tryCrash(t, c, n)
		}
		tryCrash(t, c, len(c.wait))
		for _, n := range []int{-1, -2, math.MinInt, len(c.wait) + 1, len(c.wait) + 2, len(c.safe) + len(c.wait) + 1, api.MaxText + 1, math.MaxInt} {
			if got, e := disk.Crash(of(c.safe, c.wait), n); e != api.ErrRange || !is(got, "", "") {
				t.Errorf("%s, %d: %s %d", c.name, n, short(got), e)
			}
		}
	}
}

func tryCrash(t *testing.T, c fault, n int) {
	t.Helper()
	if got, e := disk.Crash(of(c.safe, c.wait), n); e != api.OK || !is(got, c.safe, c.wait[:n]) {
		t.Errorf("%s, %d: %s %d", c.name, n, short(got), e)
	}
}

// What is spare behind Wait is no part of it.
func TestCrashDoesNotReachSpareRoom(t *testing.T) {
	room := []byte("abcdef")
	if got, e := disk.Crash(api.Disk{Wait: room[:3]}, 4); e != api.ErrRange || !is(got, "", "") {
		t.Errorf("%s %d", short(got), e)
	}
}

func TestRecover(t *testing.T) {
	const a, b, c = "0 2: clear\n", "1 1: open 3\n", "2 9: append 1 5 6\n"
	full := lines(api.MaxLog)
	for _, k := range []struct {
		name             string
		safe, wait, want string
	}{
		{"nothing", "", "", ""},
		{"nothing waits", a, "", a},
		{"nothing is safe", "", a + b, a + b},
		{"both", a, b + c, a + b + c},
		{"all kinds", strings.Join(some, ""), strings.Join(some, ""), strings.Join(some, "") + strings.Join(some, "")},
		{"torn", a, "1 1: open 3", a},
		{"a byte is left", a, "1", a},
		{"torn behind a whole one", a, b + "2 9: append 1 5", a + b},
		{"a torn one that would be another record", "", "2 9: append 1 5", ""},
		{"an empty line", a, "\n" + b, a},
		{"an empty line behind a whole one", a, b + "\n" + c, a + b},
		{"no line", a, "x\n" + b, a},
		{"no line between", a, b + "x\n" + c, a + b},
		{"no hand between", a, b + "3 1: clear\n" + c, a + b},
		{"no number between", a, b + "0 41: clear\n" + c, a + b},
		{"too much Data between", a, b + "0 1: append 1 1 2 3 4 5 6 7 8 9\n" + c, a + b},
		{"another line feed", a, "1 1: open 3\r\n" + c, a},
		{"all bytes, torn", "", strings.Repeat("x", api.MaxText), ""},
		{"all bytes, no line", a, strings.Repeat("\n", api.MaxText-len(a)), a},
		{"a whole one ahead of all bytes", "", a + strings.Repeat("x", api.MaxText-len(a)), a},
		{"up to all lines", lines(79), a, lines(79) + a},
		{"up to all lines, and one more", lines(79), a + b, lines(79) + a},
		{"up to all lines, and torn", lines(79), a + "1 1", lines(79) + a},
		{"all lines already", full, a + b, full},
		{"all lines at once", "", full, full},
		{"a line too many at once", "", full + a, full},
		{"far too many lines at once", "", lines(2000), full},
		{"far too many lines behind some", a, lines(2000), a + lines(79)},
	} {
		got, l, e := disk.Recover(of(k.safe, k.wait))
		if e != api.OK || !is(got, k.want, "") || !areOf(l, k.want) {
			t.Errorf("%s: %s %d records, %d, want %s", k.name, short(got), len(l), e, short(of(k.want, "")))
		}
	}
}

func TestRecoverOfEachNumberOfLines(t *testing.T) {
	text := lines(api.MaxLog + 40)
	for n := range api.MaxLog + 1 {
		for more := range 120 - n {
			safe, want := lines(n), lines(min(n+more, 80))
			got, l, e := disk.Recover(of(safe, lines(n + more)[len(safe):]+text[:5]))
			if e != api.OK || !is(got, want, "") || len(l) != min(n+more, 80) {
				t.Errorf("%d and %d: %d bytes, %d records, %d", n, more, len(got.Safe), len(l), e)
			}
		}
	}
}

// P7.3

// Some records are synced, more of them are put, and the power goes with each number of bytes kept: all that was synced is there, and of the rest those whose lines are whole.
func TestSyncedIsThereBehindACrash(t *testing.T) {
	for synced := range len(some) + 1 {
		for put := synced; put <= len(some); put++ {
			d := written(t, some[:synced], some[synced:put])
			for n := range len(d.Wait) + 1 {
				left, e := disk.Crash(d, n)
				if e != api.OK {
					t.Fatalf("%d", e)
				}
				safe := strings.Join(some[:synced], "")
				wait := strings.Join(some[synced:put], "")[:n]
				want := safe + wait[:strings.LastIndex(wait, "\n")+1]
				tryRecover(t, left, want)
			}
		}
	}
}

// written: a disk of records that are synced, and of others that wait.
func written(t *testing.T, synced, waiting []string) api.Disk {
	t.Helper()
	d := put(t, api.Disk{}, synced)
	d, e := disk.Sync(d)
	if e != api.OK {
		t.Fatalf("sync: %d", e)
	}
	d = put(t, d, waiting)
	if !is(d, strings.Join(synced, ""), strings.Join(waiting, "")) {
		t.Fatalf("%s", short(d))
	}
	return d
}

func put(t *testing.T, d api.Disk, l []string) api.Disk {
	t.Helper()
	for _, line := range l {
		var e api.Errno
		if d, e = disk.Put(d, rec(line)); e != api.OK {
			t.Fatalf("put %q: %d", line, e)
		}
	}
	return d
}

// tryRecover recovers d, and does so again: nothing changes any more, whatever else comes between.
func tryRecover(t *testing.T, d api.Disk, want string) {
	t.Helper()
	got, l, e := disk.Recover(d)
	if e != api.OK || !is(got, want, "") || !areOf(l, want) {
		t.Errorf("%s: %s %d records, %d", short(d), short(got), len(l), e)
	}
	again, k, e := disk.Recover(got)
	if e != api.OK || !disk.Same(again, got) || !areOf(k, want) {
		t.Errorf("%s, again: %s %d records, %d", short(d), short(again), len(k), e)
	}
	if next, e := disk.Sync(got); e != api.OK || !disk.Same(next, got) {
		t.Errorf("%s, synced: %s %d", short(d), short(next), e)
	}
	if next, e := disk.Crash(got, 0); e != api.OK || !disk.Same(next, got) {
		t.Errorf("%s, crashed: %s %d", short(d), short(next), e)
	}
}

// model: a disk as lists of lines, and the bytes of a torn one behind them.
type model struct {
	safe, wait []string
	torn       string
}

func (m model) texts() (string, string) {
	return strings.Join(m.safe, ""), strings.Join(m.wait, "") + m.torn
}

// crashed: what is left of m, of n bytes of what waits.
func (m model) crashed(n int) model {
	left := model{safe: m.safe}
	for _, line := range append(slices.Clone(m.wait), m.torn) {
		if n < len(line) {
			left.torn = line[:n]
			return left
		}
		if strings.HasSuffix(line, "\n") {
			left.wait = append(left.wait, line)
		} else {
			left.torn = line
		}
		n -= len(line)
	}
	return left
}

// Up to five calls one after the other, in every order, held against the model: puts of two records (none behind what is torn: see TestPutBehindWhatIsTorn), syncs, crashes with none, one, half, all but one and all of the bytes kept, recoveries.
func TestCallsInEveryOrder(t *testing.T) {
	var grow func(d api.Disk, m model, left int)
	grow = func(d api.Disk, m model, left int) {
		if safe, wait := m.texts(); !is(d, safe, wait) || disk.Check(d) != api.OK {
			t.Fatalf("%s, want %s", short(d), short(of(safe, wait)))
		}
		if left == 0 {
			return
		}
		for _, line := range []string{"0 1: clear\n", "1 3: append 2 7\n"} {
			if m.torn == "" { // else the line stands behind what is torn: that is no line of the model
				next, _ := disk.Put(d, rec(line))
				grow(next, model{m.safe, append(slices.Clone(m.wait), line), ""}, left-1)
			}
		}
		next, e := disk.Sync(d)
		if (e == api.ErrTorn) != (m.torn != "") || e != api.OK && !is(next, "", "") {
			t.Fatalf("sync of %s: %s %d", short(d), short(next), e)
		}
		all := model{safe: slices.Concat(m.safe, m.wait)}
		if e == api.OK {
			grow(next, all, left-1)
		}
		size := len(d.Wait)
		for _, n := range []int{0, 1, size / 2, size - 1, size} {
			if n >= 0 && n <= size {
				next, _ := disk.Crash(d, n)
				grow(next, m.crashed(n), left-1)
			}
		}
		next, l, e := disk.Recover(d)
		if e != api.OK || !areOf(l, strings.Join(all.safe, "")) {
			t.Fatalf("recover of %s: %d records, %d", short(d), len(l), e)
		}
		grow(next, all, left-1)
	}
	grow(api.Disk{}, model{}, 5)
}

// What is put behind something torn is lost with it, and harms nothing that is safe.
func TestPutBehindWhatIsTorn(t *testing.T) {
	d := written(t, some[:3], some[3:6])
	for n := range len(d.Wait) + 1 {
		left, _ := disk.Crash(d, n)
		next := put(t, left, some[6:8])
		whole := strings.LastIndex(string(left.Wait), "\n") + 1
		want := string(d.Safe) + string(left.Wait[:whole])
		if whole == n {
			want += some[6] + some[7]
		}
		got, l, e := disk.Recover(next)
		if e != api.OK || !is(got, want, "") || !areOf(l, want) {
			t.Errorf("%d: %s %d records, %d", n, short(got), len(l), e)
		}
	}
}

// P2 of the document: what is handed in is only read, what is answered is new memory.

const spare = "0 7: clear\n"

// roomy: a disk whose lists have room behind them, in which something stands already.
func roomy(safe, wait string) (api.Disk, []byte, []byte) {
	a, b := []byte(safe+spare), []byte(wait+spare)
	return api.Disk{Safe: a[:len(safe)], Wait: b[:len(wait)]}, a, b
}

func TestHandedInIsOnlyRead(t *testing.T) {
	for _, c := range append(rights(), wrongs()...) {
		for _, k := range calls {
			d, a, b := roomy(c.safe, c.wait)
			k.do(d)
			disk.Check(d)
			disk.Same(d, d)
			if string(a) != c.safe+spare || string(b) != c.wait+spare || !is(d, c.safe, c.wait) {
				t.Errorf("%s, %s: what was handed in is changed", c.name, k.name)
			}
		}
	}
}

func TestPutOnlyReadsTheRecord(t *testing.T) {
	room := []int{1, 2, 3, 4}
	r := api.Rec{Seq: 1, C: api.Cmd{Kind: api.CAppend, Data: room[:2]}}
	d, _ := disk.Put(api.Disk{}, r)
	if !slices.Equal(room, []int{1, 2, 3, 4}) || len(r.C.Data) != 2 {
		t.Errorf("%v", room)
	}
	room[0] = 9
	if !is(d, "", "0 1: append 0 1 2\n") {
		t.Errorf("%s", short(d))
	}
}

func TestAnsweredIsNewMemory(t *testing.T) {
	for _, c := range rights() {
		for _, k := range calls {
			d, a, b := roomy(c.safe, c.wait)
			got, l, e := k.do(d)
			if e != api.OK {
				continue
			}
			safe, wait, records := string(got.Safe), string(got.Wait), fmt.Sprint(l)
			scribble(a)
			scribble(b)
			if !is(got, safe, wait) || fmt.Sprint(l) != records {
				t.Errorf("%s, %s: what is answered shares memory with what was handed in", c.name, k.name)
			}
			copy(a, c.safe+spare)
			copy(b, c.wait+spare)
			scribble(got.Safe)
			if string(got.Wait) != wait || fmt.Sprint(l) != records {
				t.Errorf("%s, %s: two lists of the answer share memory", c.name, k.name)
			}
			scribble(got.Wait)
			if fmt.Sprint(l) != records || string(a) != c.safe+spare || string(b) != c.wait+spare {
				t.Errorf("%s, %s: what was handed in shares memory with what is answered", c.name, k.name)
			}
		}
	}
}

// Each record has Data of its own.
func TestRecoveredRecordsShareNoMemory(t *testing.T) {
	text := strings.Repeat("0 1: append 1 2 3\n", 4) + "1 1: write 1 2 4 5\n"
	for n := range 5 {
		_, l, _ := disk.Recover(of(text, text))
		for i := range l[n].C.Data[:cap(l[n].C.Data)] {
			l[n].C.Data[:cap(l[n].C.Data)][i] = -9
		}
		l[n] = rec(strings.SplitAfter(text, "\n")[n])
		if !areOf(l, text+text) {
			t.Errorf("%d: %v", n, l)
		}
	}
}

// scribble writes over l and the spare room behind it.
func scribble(l []byte) {
	l = l[:cap(l)]
	for i := range l {
		l[i] = '#'
	}
}

// P1 of the document: what a call answers hangs on its arguments alone; lists that have nothing in them may be nil or empty.

func TestAnswersAreTheSameAgain(t *testing.T) {
	for _, c := range append(rights(), wrongs()...) {
		for _, k := range calls {
			d, l, e := k.do(of(c.safe, c.wait))
			handed, _, _ := roomy(c.safe, c.wait)
			again, m, f := k.do(handed)
			if e != f || !disk.Same(d, again) || fmt.Sprint(l) != fmt.Sprint(m) {
				t.Errorf("%s, %s: %s %d, then %s %d", c.name, k.name, short(d), e, short(again), f)
			}
		}
	}
}

func TestNilAndEmptyAreAlike(t *testing.T) {
	for _, k := range calls {
		d, l, e := k.do(api.Disk{})
		again, m, f := k.do(api.Disk{Safe: []byte{}, Wait: []byte{}})
		if e != f || !disk.Same(d, again) || len(l) != len(m) {
			t.Errorf("%s: %s %d, then %s %d", k.name, short(d), e, short(again), f)
		}
	}
}
