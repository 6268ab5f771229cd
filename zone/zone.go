// Package zone: see doc/01-zone.md.
package zone

import (
	"slices"

	"quayhand/api"
)

// Check says what is wrong with z.
func Check(z api.Zone) api.Errno {
	if outside(api.Empty, api.Full)(z.State) {
		return api.ErrForm
	}
	if len(z.Data) > api.ZoneSize {
		return api.ErrMany
	}
	if slices.ContainsFunc(z.Data, outside(0, api.MaxValue)) {
		return api.ErrRange
	}
	if !fits(z.State, len(z.Data)) {
		return api.ErrForm
	}
	return api.OK
}

// Same: are all fields of a and b alike?
func Same(a, b api.Zone) bool {
	return a.State == b.State && slices.Equal(a.Data, b.Data)
}

// Write lays l behind what is written in z.
func Write(z api.Zone, l []int) (api.Zone, api.Errno) {
	if e := checkWrite(z, l); e != api.OK {
		return api.Zone{}, e
	}
	next := api.Zone{State: z.State, Data: join(z.Data, l)}
	wake(&next)
	return next, api.OK
}

// Read answers n blocks of z, from at on.
func Read(z api.Zone, at, n int) ([]int, api.Errno) {
	if e := checkRead(z, at, n); e != api.OK {
		return nil, e
	}
	return join(z.Data[at:at+n], nil), api.OK
}

// outside answers a question: isn't a value from low to high?
func outside(low, high int) func(int) bool {
	return func(v int) bool { return v < low || v > high }
}

// fits: may a zone of this state have so many blocks? A Full one may have
// any number of them, since it can be finished early.
func fits(state, blocks int) bool {
	switch state {
	case api.Full:
		return true
	case api.Empty:
		return blocks == 0
	case api.Closed:
		return blocks > 0 && blocks < api.ZoneSize
	}
	return blocks < api.ZoneSize
}

func checkWrite(z api.Zone, l []int) api.Errno {
	if e := Check(z); e != api.OK {
		return e
	}
	if outside(1, api.ZoneSize)(len(l)) {
		return api.ErrMany
	}
	if slices.ContainsFunc(l, outside(0, api.MaxValue)) {
		return api.ErrRange
	}
	if z.State == api.Full || len(z.Data)+len(l) > api.ZoneSize {
		return api.ErrFull
	}
	return api.OK
}

// checkRead holds n against the whole zone ahead of what is written: a piece
// that no zone could have is a wrong value, not one that comes too early.
func checkRead(z api.Zone, at, n int) api.Errno {
	if e := Check(z); e != api.OK {
		return e
	}
	if outside(0, api.ZoneSize)(at) || outside(0, api.ZoneSize-at)(n) {
		return api.ErrRange
	}
	if at+n > len(z.Data) {
		return api.ErrLate
	}
	return api.OK
}

// join copies both lists: an answer shares no memory with what was handed in,
// nor is the spare room behind a written on.
func join(a, b []int) []int {
	out := make([]int, len(a)+len(b))
	copy(out, a)
	copy(out[len(a):], b)
	return out
}

// wake sets the state that z has once it was written.
func wake(z *api.Zone) {
	if z.State != api.Held {
		z.State = api.Open
	}
	if len(z.Data) == api.ZoneSize {
		z.State = api.Full
	}
}
