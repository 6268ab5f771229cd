package zone_test

import (
	"fmt"
	"math"
	"slices"
	"testing"

	"quayhand/api"
	"quayhand/zone"
)

var states = []int{api.Empty, api.Open, api.Held, api.Closed, api.Full}

// count: the values from 1 to n.
func count(n int) []int {
	l := make([]int, n)
	for i := range l {
		l[i] = i + 1
	}
	return l
}

// with: the values from 1 to n, but v at place at.
func with(n, at, v int) []int {
	l := count(n)
	l[at] = v
	return l
}

func made(state, n int) api.Zone { return api.Zone{State: state, Data: count(n)} }

// P1.1

func TestCheckOfEachStateAndSize(t *testing.T) {
	for _, state := range states {
		for n := 0; n <= api.ZoneSize; n++ {
			want := api.OK
			if state == api.Empty && n > 0 || state == api.Closed && n == 0 || state != api.Full && n == api.ZoneSize {
				want = api.ErrForm
			}
			if e := zone.Check(made(state, n)); e != want {
				t.Errorf("state %d, %d blocks: %d, want %d", state, n, e, want)
			}
		}
	}
}

func TestCheckErrorsAndWhichIsFirst(t *testing.T) {
	size := api.ZoneSize
	for _, c := range []struct {
		name string
		z    api.Zone
		want api.Errno
	}{
		{"zero", api.Zone{}, api.OK},
		{"empty list", api.Zone{Data: []int{}}, api.OK},
		{"edges of values", api.Zone{State: api.Open, Data: []int{0, api.MaxValue}}, api.OK},
		{"state below", made(-1, 0), api.ErrForm},
		{"state above", made(api.Full+1, 0), api.ErrForm},
		{"least state", made(math.MinInt, 1), api.ErrForm},
		{"greatest state", made(math.MaxInt, 1), api.ErrForm},
		{"too many", made(api.Full, size+1), api.ErrMany},
		{"value below", api.Zone{State: api.Open, Data: with(3, 0, -1)}, api.ErrRange},
		{"value above", api.Zone{State: api.Held, Data: with(3, 1, api.MaxValue+1)}, api.ErrRange},
		{"last value", api.Zone{State: api.Full, Data: with(size, size-1, math.MinInt)}, api.ErrRange},
		{"state ahead of too many", made(api.Full+1, size+1), api.ErrForm},
		{"state ahead of value", api.Zone{State: -1, Data: []int{-1}}, api.ErrForm},
		{"too many ahead of value", api.Zone{State: api.Full, Data: with(size+1, 0, -1)}, api.ErrMany},
		{"too many ahead of Empty", made(api.Empty, size+1), api.ErrMany},
		{"value ahead of Empty", api.Zone{Data: []int{-1}}, api.ErrRange},
		{"value ahead of all written", api.Zone{State: api.Open, Data: with(size, 7, 1000)}, api.ErrRange},
	} {
		if e := zone.Check(c.z); e != c.want {
			t.Errorf("%s: %d, want %d", c.name, e, c.want)
		}
	}
}

func TestSame(t *testing.T) {
	for _, c := range []struct {
		name string
		a, b api.Zone
		want bool
	}{
		{"zero", api.Zone{}, api.Zone{}, true},
		{"nil and empty", api.Zone{}, api.Zone{Data: []int{}}, true},
		{"alike", made(api.Open, 3), made(api.Open, 3), true},
		{"alike, but wrong", api.Zone{State: 77, Data: with(12, 3, -5)}, api.Zone{State: 77, Data: with(12, 3, -5)}, true},
		{"spare room", api.Zone{State: api.Open, Data: count(5)[:3]}, made(api.Open, 3), true},
		{"state", made(api.Open, 3), made(api.Held, 3), false},
		{"wrong states", api.Zone{State: -1}, api.Zone{State: -2}, false},
		{"shorter", made(api.Open, 3), made(api.Open, 2), false},
		{"something and nothing", made(api.Open, 1), made(api.Open, 0), false},
		{"first value", api.Zone{Data: with(3, 0, 9)}, api.Zone{Data: count(3)}, false},
		{"last value", api.Zone{Data: with(3, 2, 9)}, api.Zone{Data: count(3)}, false},
	} {
		if zone.Same(c.a, c.b) != c.want || zone.Same(c.b, c.a) != c.want {
			t.Errorf("%s: want %v", c.name, c.want)
		}
	}
}

// P1.2

func TestWriteOfEachStateAndSize(t *testing.T) {
	for _, state := range states {
		for had := 0; had <= api.ZoneSize; had++ {
			for n := 1; n <= api.ZoneSize; n++ {
				z := made(state, had)
				if zone.Check(z) == api.OK {
					tryWrite(t, z, n)
				}
			}
		}
	}
}

// tryWrite writes n blocks to z, which is right.
func tryWrite(t *testing.T, z api.Zone, n int) {
	t.Helper()
	l := make([]int, n)
	for i := range l {
		l[i] = api.MaxValue - i
	}
	want, wantE := api.Zone{State: api.Open, Data: slices.Concat(z.Data, l)}, api.OK
	if z.State == api.Held {
		want.State = api.Held
	}
	if len(want.Data) == api.ZoneSize {
		want.State = api.Full
	}
	if z.State == api.Full || len(want.Data) > api.ZoneSize {
		want, wantE = api.Zone{}, api.ErrFull
	}
	got, e := zone.Write(z, l)
	if e != wantE || got.State != want.State || !slices.Equal(got.Data, want.Data) {
		t.Errorf("%v and %v: %v %d, want %v %d", z, l, got, e, want, wantE)
	}
	if e == api.OK && zone.Check(got) != api.OK {
		t.Errorf("%v and %v: %v is wrong: %d", z, l, got, zone.Check(got))
	}
}

func TestWriteErrorsAndWhichIsFirst(t *testing.T) {
	size := api.ZoneSize
	for _, c := range []struct {
		name string
		z    api.Zone
		l    []int
		want api.Errno
	}{
		{"edges of values", made(api.Empty, 0), []int{0, api.MaxValue}, api.OK},
		{"state", made(5, 0), count(1), api.ErrForm},
		{"zone of too many", made(api.Full, size+1), count(1), api.ErrMany},
		{"zone with a wrong value", api.Zone{State: api.Open, Data: []int{-1}}, count(1), api.ErrRange},
		{"Empty with blocks", made(api.Empty, 1), count(1), api.ErrForm},
		{"nil", made(api.Open, 1), nil, api.ErrMany},
		{"nothing", made(api.Open, 1), []int{}, api.ErrMany},
		{"too many", made(api.Empty, 0), count(size + 1), api.ErrMany},
		{"value below", made(api.Open, 1), []int{1, -1}, api.ErrRange},
		{"value above", made(api.Open, 1), []int{1, api.MaxValue + 1}, api.ErrRange},
		{"least value", made(api.Open, 1), []int{math.MinInt}, api.ErrRange},
		{"all written", made(api.Full, size), count(1), api.ErrFull},
		{"finished early", made(api.Full, 0), count(1), api.ErrFull},
		{"no room for all", made(api.Closed, 5), count(4), api.ErrFull},
		{"Check ahead of nothing", made(5, 0), nil, api.ErrForm},
		{"Check ahead of value", made(api.Closed, 0), []int{-1}, api.ErrForm},
		{"nothing ahead of Full", made(api.Full, 0), nil, api.ErrMany},
		{"too many ahead of value", made(api.Empty, 0), with(size+1, 0, -1), api.ErrMany},
		{"too many ahead of Full", made(api.Full, size), count(size + 1), api.ErrMany},
		{"value ahead of Full", made(api.Full, 2), []int{1, 1000}, api.ErrRange},
		{"value ahead of room", made(api.Open, 7), []int{1, 1000}, api.ErrRange},
	} {
		z, e := zone.Write(c.z, c.l)
		if e != c.want {
			t.Errorf("%s: %d, want %d", c.name, e, c.want)
		}
		if e != api.OK && (z.State != 0 || len(z.Data) != 0) {
			t.Errorf("%s: an error, and %v", c.name, z)
		}
	}
}

func TestReadOfEachPiece(t *testing.T) {
	for _, state := range states {
		for had := 0; had <= api.ZoneSize; had++ {
			z := made(state, had)
			if zone.Check(z) != api.OK {
				continue
			}
			for at := -2; at <= api.ZoneSize+2; at++ {
				for n := -2; n <= api.ZoneSize+2; n++ {
					tryRead(t, z, at, n)
				}
			}
		}
	}
}

// tryRead reads a piece of z, which is right.
func tryRead(t *testing.T, z api.Zone, at, n int) {
	t.Helper()
	var want []int
	wantE := api.OK
	switch {
	case at < 0 || at > api.ZoneSize || n < 0 || at+n > api.ZoneSize:
		wantE = api.ErrRange
	case at+n > len(z.Data):
		wantE = api.ErrLate
	default:
		want = z.Data[at : at+n]
	}
	if got, e := zone.Read(z, at, n); e != wantE || !slices.Equal(got, want) {
		t.Errorf("%v, %d from %d: %v %d, want %v %d", z, n, at, got, e, want, wantE)
	}
}

func TestReadErrorsAndWhichIsFirst(t *testing.T) {
	for _, c := range []struct {
		name  string
		z     api.Zone
		at, n int
		want  api.Errno
	}{
		{"state", made(5, 2), 0, 1, api.ErrForm},
		{"zone of too many", made(api.Full, 9), 0, 1, api.ErrMany},
		{"zone with a wrong value", api.Zone{State: api.Open, Data: []int{1, 1000}}, 0, 1, api.ErrRange},
		{"Check ahead of range", made(api.Empty, 1), -1, -1, api.ErrForm},
		{"Check ahead of late", made(api.Closed, 0), 0, 1, api.ErrForm},
		{"range ahead of late", made(api.Open, 2), 4, 5, api.ErrRange},
		{"late", made(api.Open, 2), 4, 4, api.ErrLate},
		{"nothing, behind what is written", made(api.Open, 2), 3, 0, api.ErrLate},
		{"nothing, at the end of what is written", made(api.Open, 2), 2, 0, api.OK},
		{"nothing, at the end of a zone", made(api.Full, 8), 8, 0, api.OK},
		{"finished early", made(api.Full, 2), 1, 2, api.ErrLate},
		{"greatest n", made(api.Open, 2), 1, math.MaxInt, api.ErrRange},
		{"least n", made(api.Open, 2), 1, math.MinInt, api.ErrRange},
		{"greatest at", made(api.Open, 2), math.MaxInt, math.MaxInt, api.ErrRange},
		{"least at", made(api.Open, 2), math.MinInt, math.MinInt, api.ErrRange},
		{"at and n that make up for each other", made(api.Open, 2), -3, 5, api.ErrRange},
	} {
		l, e := zone.Read(c.z, c.at, c.n)
		if e != c.want {
			t.Errorf("%s: %d, want %d", c.name, e, c.want)
		}
		if len(l) != 0 {
			t.Errorf("%s: %v, want nothing", c.name, l)
		}
	}
}

// P1.3: however the blocks come, each is read where it was written, ever after.
func TestWhatIsWrittenIsRead(t *testing.T) {
	for _, state := range []int{api.Empty, api.Open, api.Held} {
		for cuts := range 1 << (api.ZoneSize - 1) {
			writeInPieces(t, state, cuts)
		}
	}
}

// writeInPieces fills a zone; a bit of cuts that is set parts two blocks.
func writeInPieces(t *testing.T, state, cuts int) {
	t.Helper()
	z, piece, written := api.Zone{State: state}, []int{}, []int{}
	for i := range api.ZoneSize {
		piece = append(piece, (i*37+cuts*11)%(api.MaxValue+1))
		if i < api.ZoneSize-1 && cuts>>i&1 == 0 {
			continue
		}
		next, e := zone.Write(z, piece)
		if e != api.OK {
			t.Fatalf("state %d, cuts %b, %v: %d", state, cuts, piece, e)
		}
		written = append(written, piece...)
		for k := range piece { // a zone keeps nothing of what was handed in
			piece[k] = -1
		}
		z, piece = next, piece[:0]
		readBack(t, z, written)
	}
	if z.State != api.Full {
		t.Errorf("state %d, cuts %b: %d at the end", state, cuts, z.State)
	}
}

// readBack reads all pieces of what was written.
func readBack(t *testing.T, z api.Zone, written []int) {
	t.Helper()
	for at := range written {
		for n := range len(written) - at + 1 {
			if got, e := zone.Read(z, at, n); e != api.OK || !slices.Equal(got, written[at:at+n]) {
				t.Errorf("%v, %d from %d: %v %d, want %v", z, n, at, got, e, written[at:at+n])
			}
		}
	}
}

// A zone that was closed is written on behind what it has.
func TestWrittenOnAfterClosing(t *testing.T) {
	z := api.Zone{State: api.Closed, Data: []int{7, 8}}
	next, e := zone.Write(z, []int{9})
	if e != api.OK || next.State != api.Open {
		t.Fatalf("%v %d", next, e)
	}
	readBack(t, next, []int{7, 8, 9})
}

// P2: what is handed in is only read, what is answered is new memory.

func TestHandedInIsOnlyRead(t *testing.T) {
	room, list := []int{1, 2, 70, 71, 72, 73, 74, 75, 76}, []int{5, 6, 80, 81}
	z := api.Zone{State: api.Open, Data: room[:2]}
	before := fmt.Sprint(room, list)
	zone.Check(z)
	zone.Same(z, z)
	zone.Write(z, list[:2])
	zone.Write(z, room[:2])
	zone.Read(z, 0, 2)
	if after := fmt.Sprint(room, list); after != before || z.State != api.Open {
		t.Errorf("%s, was %s", after, before)
	}
}

func TestAnsweredIsNewMemory(t *testing.T) {
	for _, state := range []int{api.Open, api.Held} {
		for had := range 3 {
			room, l := count(api.ZoneSize), []int{5, 6}
			z := api.Zone{State: state, Data: room[:had]}
			a, _ := zone.Write(z, l)
			b, _ := zone.Write(z, []int{8, 9})
			if want := append(count(had), 5, 6); !slices.Equal(a.Data, want) {
				t.Errorf("%v after a second write, want %v", a.Data, want)
			}
			scribble(a.Data)
			if want := append(count(had), 8, 9); !slices.Equal(b.Data, want) {
				t.Errorf("%v, want %v", b.Data, want)
			}
			if !slices.Equal(room, count(api.ZoneSize)) || !slices.Equal(l, []int{5, 6}) {
				t.Errorf("handed in: %v, %v", room, l)
			}
		}
	}
}

func TestReadIsNewMemory(t *testing.T) {
	for at := range 4 {
		for n := range 4 - at {
			room := count(api.ZoneSize)
			z := api.Zone{State: api.Open, Data: room[:3]}
			l, e := zone.Read(z, at, n)
			scribble(l)
			if e != api.OK || !slices.Equal(room, count(api.ZoneSize)) {
				t.Errorf("%d from %d: %d, handed in: %v", n, at, e, room)
			}
		}
	}
}

// scribble writes over l and the spare room behind it.
func scribble(l []int) {
	l = l[:cap(l)]
	for i := range l {
		l[i] = -9
	}
}
