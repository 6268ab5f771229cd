package book_test

import (
	"fmt"
	"math"
	"slices"
	"testing"

	"quayhand/api"
	"quayhand/book"
)

// made: a book with these keys, whoever holds it.
func made(holder, kind int, keys ...int) api.Book {
	return api.Book{Keys: keys, Holder: holder, Type: kind}
}

// call: one of the calls that change a book.
type call struct {
	name string
	do   func(b api.Book, who int) (api.Book, api.Errno)
}

// calls: all that change a book, those that are told a number with each of these, some of them wrong.
func calls(numbers ...int) []call {
	out := []call{{"Release", book.Release}, {"Clear", book.Clear}}
	for _, n := range numbers {
		out = append(out,
			call{fmt.Sprint("Register ", n), with(book.Register, n)},
			call{fmt.Sprint("Reserve ", n), with(book.Reserve, n)},
			call{fmt.Sprint("Preempt ", n), with(book.Preempt, n)})
	}
	return out
}

// with tells a call its number.
func with(do func(b api.Book, who, n int) (api.Book, api.Errno), n int) func(api.Book, int) (api.Book, api.Errno) {
	return func(b api.Book, who int) (api.Book, api.Errno) { return do(b, who, n) }
}

// each goes through all right books whose keys are among 0, 1, 5 and the greatest.
func each(do func(b api.Book)) {
	some := []int{0, 1, 5, api.MaxKey}
	for _, x := range some {
		for _, y := range some {
			for _, z := range some {
				keys := []int{x, y, z}
				do(made(-1, 0, keys...))
				for holder, key := range keys {
					for kind := 1; kind <= 4 && key != 0; kind++ {
						do(made(holder, kind, keys...))
					}
				}
			}
		}
	}
}

// told: a book as a text; one that is zero as "".
func told(b api.Book) string {
	if len(b.Keys) == 0 && b.Holder == 0 && b.Type == 0 {
		return ""
	}
	return fmt.Sprint(b)
}

// P3.1

func TestNew(t *testing.T) {
	a, b := book.New(), book.New()
	if told(a) != "{[0 0 0] -1 0}" || book.Check(a) != api.OK {
		t.Errorf("%v", a)
	}
	a.Keys[0] = 7
	if b.Keys[0] != 0 || book.New().Keys[0] != 0 {
		t.Error("two books share memory")
	}
}

func TestCheckOfRightBooks(t *testing.T) {
	n := 0
	each(func(b api.Book) {
		n++
		if e := book.Check(b); e != api.OK {
			t.Errorf("%v: %d", b, e)
		}
	})
	if n != 64+3*48*4 {
		t.Errorf("%d books", n)
	}
}

// Whoever holds, and by whichever type: what must be said of it, where the keys are right.
func TestCheckOfEachHolderAndType(t *testing.T) {
	keys := []int{4, 0, 9}
	for holder := -3; holder <= 5; holder++ {
		for kind := -2; kind <= 6; kind++ {
			want := api.OK
			switch {
			case holder < -1 || holder > 2 || kind < 0 || kind > 4:
				want = api.ErrRange
			case holder == -1 && kind != 0, holder >= 0 && kind == 0, holder == 1:
				want = api.ErrForm
			}
			if e := book.Check(made(holder, kind, keys...)); e != want {
				t.Errorf("holder %d, type %d: %d, want %d", holder, kind, e, want)
			}
		}
	}
}

func TestCheckErrorsAndWhichIsFirst(t *testing.T) {
	for _, c := range []struct {
		name string
		b    api.Book
		want api.Errno
	}{
		{"edges of keys", made(-1, 0, 0, 9, 1), api.OK},
		{"keys alike", made(1, api.AccessAll, 3, 3, 3), api.OK},
		{"zero", api.Book{}, api.ErrForm},
		{"nil", made(-1, 0), api.ErrForm},
		{"no keys", api.Book{Keys: []int{}, Holder: -1}, api.ErrForm},
		{"too few", made(-1, 0, 1, 2), api.ErrForm},
		{"too many", made(-1, 0, 1, 2, 3, 4), api.ErrForm},
		{"first key below", made(-1, 0, -1, 0, 0), api.ErrRange},
		{"key above", made(-1, 0, 0, 10, 0), api.ErrRange},
		{"last key above", made(-1, 0, 0, 0, 10), api.ErrRange},
		{"least key", made(-1, 0, 0, 0, math.MinInt), api.ErrRange},
		{"greatest key", made(-1, 0, math.MaxInt, 0, 0), api.ErrRange},
		{"holder below", made(-2, 0, 1, 2, 3), api.ErrRange},
		{"holder above", made(3, 1, 1, 2, 3), api.ErrRange},
		{"least holder", made(math.MinInt, 1, 1, 2, 3), api.ErrRange},
		{"greatest holder", made(math.MaxInt, 1, 1, 2, 3), api.ErrRange},
		{"type below", made(0, -1, 1, 2, 3), api.ErrRange},
		{"type above", made(0, 5, 1, 2, 3), api.ErrRange},
		{"least type", made(-1, math.MinInt, 1, 2, 3), api.ErrRange},
		{"greatest type", made(-1, math.MaxInt, 1, 2, 3), api.ErrRange},
		{"nobody by a type", made(-1, 1, 1, 2, 3), api.ErrForm},
		{"somebody by none", made(2, 0, 1, 2, 3), api.ErrForm},
		{"holder without a key", made(2, 1, 1, 2, 0), api.ErrForm},
		{"too few ahead of a key", made(-1, 0, -1, 0), api.ErrForm},
		{"too many ahead of a key", made(-1, 0, 0, 0, 0, 10), api.ErrForm},
		{"too few ahead of holder", made(7, 1, 1, 1), api.ErrForm},
		{"a key ahead of nobody by a type", made(-1, 1, 0, 10, 0), api.ErrRange},
		{"a key ahead of holder without one", made(0, 1, 0, 10, 0), api.ErrRange},
		{"holder's own key", made(1, 1, 0, -1, 0), api.ErrRange},
		{"type above ahead of nobody", made(-1, 5, 0, 0, 0), api.ErrRange},
		{"type above ahead of holder without a key", made(0, 5, 0, 0, 0), api.ErrRange},
		{"holder above ahead of none", made(3, 0, 1, 2, 3), api.ErrRange},
	} {
		if e := book.Check(c.b); e != c.want {
			t.Errorf("%s: %d, want %d", c.name, e, c.want)
		}
	}
}

func TestSame(t *testing.T) {
	for _, c := range []struct {
		name string
		a, b api.Book
		want bool
	}{
		{"zero", api.Book{}, api.Book{}, true},
		{"new", book.New(), made(-1, 0, 0, 0, 0), true},
		{"zero and new", api.Book{}, book.New(), false},
		{"nil and empty", made(-1, 0), api.Book{Keys: []int{}, Holder: -1}, true},
		{"alike", made(0, 1, 1, 2, 3), made(0, 1, 1, 2, 3), true},
		{"alike, but wrong", made(77, -6, -5, 99), made(77, -6, -5, 99), true},
		{"spare room", api.Book{Keys: []int{1, 2, 3, 4}[:3], Holder: -1}, made(-1, 0, 1, 2, 3), true},
		{"first key", made(-1, 0, 1, 2, 3), made(-1, 0, 4, 2, 3), false},
		{"last key", made(-1, 0, 1, 2, 3), made(-1, 0, 1, 2, 4), false},
		{"fewer keys", made(-1, 0, 1, 2, 3), made(-1, 0, 1, 2), false},
		{"keys and none", made(-1, 0, 0), made(-1, 0), false},
		{"holder", made(0, 1, 1, 2, 3), made(1, 1, 1, 2, 3), false},
		{"wrong holders", made(-2, 0, 1), made(-3, 0, 1), false},
		{"type", made(0, 1, 1, 2, 3), made(0, 2, 1, 2, 3), false},
		{"wrong types", made(0, 8, 1), made(0, 9, 1), false},
		{"holder and type the other way round", made(1, 2, 1, 2, 3), made(2, 1, 1, 2, 3), false},
	} {
		if book.Same(c.a, c.b) != c.want || book.Same(c.b, c.a) != c.want {
			t.Errorf("%s: want %v", c.name, c.want)
		}
	}
}

func TestSaidFirst(t *testing.T) {
	right := made(0, api.WriteAlone, 1, 0, 3)
	for _, c := range []struct {
		name string
		b    api.Book
		who  int
		want api.Errno
	}{
		{"below", right, -1, api.ErrWho},
		{"above", right, api.MaxHands, api.ErrWho},
		{"least", book.New(), math.MinInt, api.ErrWho},
		{"greatest", book.New(), math.MaxInt, api.ErrWho},
		{"keys that aren't", made(-1, 0, 1, 2), 1, api.ErrForm},
		{"a key", made(-1, 0, 1, 2, 10), 0, api.ErrRange},
		{"holder", made(3, 1, 1, 2, 3), 0, api.ErrRange},
		{"type", made(0, 5, 1, 2, 3), 0, api.ErrRange},
		{"holder without a key", made(1, 1, 1, 0, 3), 0, api.ErrForm},
		{"Check's ErrForm ahead of who", made(-1, 0, 1, 2, 3, 4), 3, api.ErrForm},
		{"Check's ErrRange ahead of who", made(-1, 0, -1, 2, 3), -1, api.ErrRange},
		{"zero ahead of who", api.Book{}, 0, api.ErrForm},
		{"Check ahead of who's key", made(-1, 1, 0, 0, 0), 0, api.ErrForm},
	} {
		for _, a := range calls(-1, 0, 1, 4, 5, 9, 10) { // what is wrong with these numbers is told later
			if next, e := a.do(c.b, c.who); e != c.want || told(next) != "" {
				t.Errorf("%s, %s: %v %d, want %d", c.name, a.name, next, e, c.want)
			}
		}
		for _, write := range []bool{false, true} {
			if may, e := book.May(c.b, c.who, write); e != c.want || may {
				t.Errorf("%s, May write %v: %v %d, want %d", c.name, write, may, e, c.want)
			}
		}
	}
}

// P3.2, P3.3

// step: a call that is told who and a number, and the book that must come of it.
type step struct {
	name   string
	from   api.Book
	who, n int
	to     api.Book // zero: there is an error
	e      api.Errno
}

func trySteps(t *testing.T, do func(b api.Book, who, n int) (api.Book, api.Errno), steps []step) {
	t.Helper()
	for _, s := range steps {
		if next, e := do(s.from, s.who, s.n); e != s.e || told(next) != told(s.to) {
			t.Errorf("%s: %v %d, want %v %d", s.name, next, e, s.to, s.e)
		}
	}
}

// alone makes a call that is told no number one that is.
func alone(do func(b api.Book, who int) (api.Book, api.Errno)) func(api.Book, int, int) (api.Book, api.Errno) {
	return func(b api.Book, who, _ int) (api.Book, api.Errno) { return do(b, who) }
}

func TestRegister(t *testing.T) {
	none := api.Book{}
	trySteps(t, book.Register, []step{
		{"first", book.New(), 0, 5, made(-1, 0, 5, 0, 0), api.OK},
		{"last, with the greatest", book.New(), 2, 9, made(-1, 0, 0, 0, 9), api.OK},
		{"another's key", made(-1, 0, 5, 0, 0), 1, 5, made(-1, 0, 5, 5, 0), api.OK},
		{"another key", made(-1, 0, 5, 6, 7), 1, 8, made(-1, 0, 5, 8, 7), api.OK},
		{"the same key", made(-1, 0, 5, 6, 7), 1, 6, made(-1, 0, 5, 6, 7), api.OK},
		{"no more", made(-1, 0, 5, 6, 7), 1, 0, made(-1, 0, 5, 0, 7), api.OK},
		{"no more, never was", book.New(), 1, 0, book.New(), api.OK},
		{"holder, another key", made(1, 3, 5, 6, 7), 1, 8, made(1, 3, 5, 8, 7), api.OK},
		{"holder no more", made(1, 3, 5, 6, 7), 1, 0, made(-1, 0, 5, 0, 7), api.OK},
		{"first hand holds no more", made(0, 1, 5, 6, 7), 0, 0, made(-1, 0, 0, 6, 7), api.OK},
		{"another holds", made(1, 3, 5, 6, 7), 2, 0, made(1, 3, 5, 6, 0), api.OK},
		{"another holds, new", made(1, 3, 0, 6, 7), 0, 6, made(1, 3, 6, 6, 7), api.OK},
		{"below", made(1, 3, 5, 6, 7), 1, -1, none, api.ErrRange},
		{"above", made(1, 3, 5, 6, 7), 1, 10, none, api.ErrRange},
		{"least", book.New(), 1, math.MinInt, none, api.ErrRange},
		{"greatest", book.New(), 1, math.MaxInt, none, api.ErrRange},
		{"who ahead of key", book.New(), 3, 10, none, api.ErrWho},
	})
}

func TestReserve(t *testing.T) {
	none, free := api.Book{}, made(-1, 0, 5, 0, 7)
	trySteps(t, book.Reserve, []step{
		{"WriteAlone", free, 0, api.WriteAlone, made(0, 1, 5, 0, 7), api.OK},
		{"AccessAlone", free, 2, api.AccessAlone, made(2, 2, 5, 0, 7), api.OK},
		{"WriteAll", free, 0, api.WriteAll, made(0, 3, 5, 0, 7), api.OK},
		{"AccessAll", free, 2, api.AccessAll, made(2, 4, 5, 0, 7), api.OK},
		{"again", made(2, 4, 5, 0, 7), 2, 4, made(2, 4, 5, 0, 7), api.OK},
		{"by another type", made(2, 4, 5, 0, 7), 2, 3, none, api.ErrKey},
		{"another holds, by this type", made(2, 4, 5, 0, 7), 0, 4, none, api.ErrKey},
		{"another holds, by another type", made(2, 4, 5, 0, 7), 0, 1, none, api.ErrKey},
		{"another with the same key holds", made(2, 4, 7, 0, 7), 0, 4, none, api.ErrKey},
		{"not registered", free, 1, 1, none, api.ErrKey},
		{"not registered, another holds", made(0, 1, 5, 0, 7), 1, 1, none, api.ErrKey},
		{"none", free, 0, 0, none, api.ErrRange},
		{"below", free, 0, -1, none, api.ErrRange},
		{"above", free, 0, 5, none, api.ErrRange},
		{"least", free, 0, math.MinInt, none, api.ErrRange},
		{"greatest", free, 0, math.MaxInt, none, api.ErrRange},
		{"range ahead of key", free, 1, 5, none, api.ErrRange},
		{"range ahead of another who holds", made(2, 4, 5, 0, 7), 0, 0, none, api.ErrRange},
		{"who ahead of range", free, -1, 5, none, api.ErrWho},
	})
}

func TestRelease(t *testing.T) {
	trySteps(t, alone(book.Release), []step{
		{"holder", made(0, 1, 5, 0, 7), 0, 0, made(-1, 0, 5, 0, 7), api.OK},
		{"last hand", made(2, 4, 5, 0, 7), 2, 0, made(-1, 0, 5, 0, 7), api.OK},
		{"another holds", made(2, 4, 5, 0, 7), 0, 0, made(2, 4, 5, 0, 7), api.OK},
		{"another with the same key holds", made(2, 4, 7, 0, 7), 0, 0, made(2, 4, 7, 0, 7), api.OK},
		{"nobody holds", made(-1, 0, 5, 0, 7), 0, 0, made(-1, 0, 5, 0, 7), api.OK},
		{"not registered", made(2, 4, 5, 0, 7), 1, 0, api.Book{}, api.ErrKey},
		{"not registered, nobody holds", book.New(), 0, 0, api.Book{}, api.ErrKey},
	})
}

func TestPreempt(t *testing.T) {
	none := api.Book{}
	trySteps(t, book.Preempt, []step{
		{"holder", made(0, 1, 5, 6, 0), 1, 5, made(1, 1, 0, 6, 0), api.OK},
		{"holder behind who", made(2, 4, 5, 6, 7), 0, 7, made(0, 4, 5, 6, 0), api.OK},
		{"holder and one more", made(0, 2, 5, 6, 5), 1, 5, made(1, 2, 0, 6, 0), api.OK},
		{"holder behind one more", made(2, 3, 5, 6, 5), 1, 5, made(1, 3, 0, 6, 0), api.OK},
		{"another holds on", made(0, 1, 5, 6, 7), 1, 7, made(0, 1, 5, 6, 0), api.OK},
		{"nobody holds", made(-1, 0, 5, 6, 5), 1, 5, made(-1, 0, 0, 6, 0), api.OK},
		{"who holds", made(1, 4, 5, 6, 5), 1, 5, made(1, 4, 0, 6, 0), api.OK},
		{"who's own key", made(-1, 0, 5, 6, 7), 1, 6, made(-1, 0, 5, 6, 7), api.OK},
		{"who's own key, and who holds", made(1, 2, 6, 6, 6), 1, 6, made(1, 2, 0, 6, 0), api.OK},
		{"who's own key, and another with it holds", made(2, 2, 5, 6, 6), 1, 6, made(1, 2, 5, 6, 0), api.OK},
		{"nobody's key", made(0, 1, 5, 6, 0), 1, 8, made(0, 1, 5, 6, 0), api.OK},
		{"least key", made(0, 1, 1, 6, 0), 1, 1, made(1, 1, 0, 6, 0), api.OK},
		{"greatest key", made(0, 1, 9, 6, 0), 1, 9, made(1, 1, 0, 6, 0), api.OK},
		{"no key", made(0, 1, 5, 6, 0), 1, 0, none, api.ErrRange},
		{"below", made(0, 1, 5, 6, 0), 1, -1, none, api.ErrRange},
		{"above", made(0, 1, 5, 6, 0), 1, 10, none, api.ErrRange},
		{"least", made(0, 1, 5, 6, 0), 1, math.MinInt, none, api.ErrRange},
		{"greatest", made(0, 1, 5, 6, 0), 1, math.MaxInt, none, api.ErrRange},
		{"not registered", made(0, 1, 5, 6, 0), 2, 5, none, api.ErrKey},
		{"range ahead of who's key", made(0, 1, 5, 6, 0), 2, 0, none, api.ErrRange},
		{"who ahead of range", made(0, 1, 5, 6, 0), 3, 0, none, api.ErrWho},
	})
}

func TestClear(t *testing.T) {
	trySteps(t, alone(book.Clear), []step{
		{"holder", made(0, 1, 5, 6, 0), 0, 0, book.New(), api.OK},
		{"another holds", made(0, 2, 5, 6, 7), 1, 0, book.New(), api.OK},
		{"nobody holds", made(-1, 0, 0, 0, 9), 2, 0, book.New(), api.OK},
		{"not registered", made(0, 1, 5, 6, 0), 2, 0, api.Book{}, api.ErrKey},
		{"nobody is registered", book.New(), 0, 0, api.Book{}, api.ErrKey},
	})
}

// Whatever is done to whatever book, it is right after it; no key changes but those that the call is about, and the holder only as the call says.
func TestBooksStayRight(t *testing.T) {
	each(func(b api.Book) {
		before := told(b)
		for _, a := range calls(-1, 0, 1, 2, 3, 4, 5, 9, 10) {
			for who := range api.MaxHands {
				next, e := a.do(b, who)
				if e != api.OK && told(next) != "" {
					t.Errorf("%s by %d of %s: an error, and %v", a.name, who, before, next)
				}
				if e == api.OK {
					stayRight(t, a, b, next, who)
				}
			}
		}
		if told(b) != before {
			t.Fatalf("%v was %s", b, before)
		}
	})
}

func stayRight(t *testing.T, a call, b, next api.Book, who int) {
	t.Helper()
	if e := book.Check(next); e != api.OK {
		t.Errorf("%s by %d of %v: %v is wrong: %d", a.name, who, b, next, e)
		return
	}
	for hand, key := range next.Keys {
		mayGo := a.name == "Clear" || a.name == fmt.Sprint("Preempt ", b.Keys[hand]) && hand != who
		isNew := a.name == fmt.Sprint("Register ", key) && hand == who
		if key != b.Keys[hand] && !isNew && !(mayGo && key == 0) {
			t.Errorf("%s by %d of %v: %v", a.name, who, b, next)
		}
	}
	if next.Holder == b.Holder && next.Type == b.Type {
		return
	}
	switch {
	case a.name == "Clear", b.Holder == who && (a.name == "Release" || a.name == "Register 0"):
		if next.Holder == -1 {
			return
		}
	case b.Holder == -1:
		if next.Holder == who && a.name == fmt.Sprint("Reserve ", next.Type) {
			return
		}
	case next.Holder == who && next.Type == b.Type && a.name == fmt.Sprint("Preempt ", b.Keys[b.Holder]):
		return
	}
	t.Errorf("%s by %d of %v: %v holds", a.name, who, b, next)
}

// P3.4

// rights, by type: the holder's, those of another who is registered, of another who isn't; each to read, to write. (Nobody holds: all have them.)
var rights = [5]string{
	0:               "rw rw rw",
	api.WriteAlone:  "rw r- r-",
	api.AccessAlone: "rw -- --",
	api.WriteAll:    "rw rw r-",
	api.AccessAll:   "rw rw --",
}

func TestMay(t *testing.T) {
	each(func(b api.Book) {
		for who, key := range b.Keys {
			at := 0
			if b.Holder != who {
				at = 3
			}
			if b.Holder != who && key == 0 {
				at = 6
			}
			read, e := book.May(b, who, false)
			write, f := book.May(b, who, true)
			want := rights[b.Type][at : at+2]
			if e != api.OK || f != api.OK || read != (want[0] == 'r') || write != (want[1] == 'w') {
				t.Errorf("%v, %d: read %v %d, write %v %d, want %s", b, who, read, e, write, f, want)
			}
		}
	})
}

func TestMayOfNewAndHolder(t *testing.T) {
	for who := range api.MaxHands {
		for _, write := range []bool{false, true} {
			if may, e := book.May(book.New(), who, write); !may || e != api.OK {
				t.Errorf("new, %d, write %v: %v %d", who, write, may, e)
			}
			for kind := api.WriteAlone; kind <= api.AccessAll; kind++ {
				if may, e := book.May(made(who, kind, 1, 1, 1), who, write); !may || e != api.OK {
					t.Errorf("holder %d by %d, write %v: %v %d", who, kind, write, may, e)
				}
			}
		}
	}
}

// P2 of the document: what is handed in is only read, what is answered is new memory.

// roomy copies a book; its keys have room to spare, which is told by its second answer.
func roomy(b api.Book) (api.Book, []int) {
	room := slices.Concat(b.Keys, []int{51, 52, 53})
	b.Keys = room[:len(b.Keys)]
	return b, room
}

func TestHandedInIsOnlyReadAndAnsweredIsNew(t *testing.T) {
	each(func(handed api.Book) {
		for _, a := range calls(0, 1, 4, 5, 10) {
			for who := -1; who <= api.MaxHands; who++ {
				b, room := roomy(handed)
				before := fmt.Sprint(b, room)
				next, e := a.do(b, who)
				answered := fmt.Sprint(next)
				if after := fmt.Sprint(b, room); after != before {
					t.Errorf("%s by %d: %s, was %s", a.name, who, after, before)
				}
				again, f := a.do(b, who)
				scribble(room)
				if fmt.Sprint(next) != answered {
					t.Errorf("%s by %d of %s keeps what was handed in: %v, was %s", a.name, who, before, next, answered)
				}
				scribble(next.Keys)
				if e != f || fmt.Sprint(again) != answered {
					t.Errorf("%s by %d of %s, again: %v %d, was %s %d", a.name, who, before, again, f, answered, e)
				}
			}
		}
	})
}

func TestCheckSameAndMayOnlyRead(t *testing.T) {
	for _, handed := range []api.Book{book.New(), made(0, 1, 5, 0, 7), made(-1, 3, 5, 99), made(9, 9)} {
		b, room := roomy(handed)
		before := fmt.Sprint(b, room)
		book.Check(b)
		book.Same(b, b)
		for who := -1; who <= api.MaxHands; who++ {
			book.May(b, who, false)
			book.May(b, who, true)
		}
		if after := fmt.Sprint(b, room); after != before {
			t.Errorf("%s, was %s", after, before)
		}
	}
}

// scribble writes over l and the spare room behind it.
func scribble(l []int) {
	l = l[:cap(l)]
	for i := range l {
		l[i] = -9
	}
}
