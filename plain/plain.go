// Package plain copies and compares api's plain data for the layers: what they
// answer shares no memory with what they were handed in.
package plain

import (
	"slices"

	"quayhand/api"
)

// CopyZones copies zones with all that is written in them.
func CopyZones(l []api.Zone) []api.Zone {
	return each(l, func(z api.Zone) api.Zone {
		return api.Zone{State: z.State, Data: list(z.Data)}
	})
}

// CopyBook copies b with its keys.
func CopyBook(b api.Book) api.Book {
	next := b
	next.Keys = list(b.Keys)
	return next
}

// CopyDesk copies d with its zones and its book.
func CopyDesk(d api.Desk) api.Desk {
	return api.Desk{Zones: CopyZones(d.Zones), B: CopyBook(d.B)}
}

// CopyCmd copies c with its data.
func CopyCmd(c api.Cmd) api.Cmd {
	next := c
	next.Data = list(c.Data)
	return next
}

// CopyAnswer copies a with its data.
func CopyAnswer(a api.Answer) api.Answer {
	next := a
	next.Data = list(a.Data)
	return next
}

// SameAnswer: are all fields of a and b alike?
func SameAnswer(a, b api.Answer) bool {
	return a.E == b.E && a.At == b.At && slices.Equal(a.Data, b.Data)
}

// CopyHall copies h with its desk, and with what each hand was answered.
func CopyHall(h api.Hall) api.Hall {
	return api.Hall{D: CopyDesk(h.D), Last: each(h.Last, func(last api.Last) api.Last {
		return api.Last{Seq: last.Seq, A: CopyAnswer(last.A)}
	})}
}

// CopyHand copies h with what it waits for, and with all that it got.
func CopyHand(h api.Hand) api.Hand {
	next := h
	next.C = CopyCmd(h.C)
	next.Got = each(h.Got, CopyAnswer)
	return next
}

// CopyDisk copies d with all its bytes.
func CopyDisk(d api.Disk) api.Disk {
	return api.Disk{Safe: list(d.Safe), Wait: list(d.Wait)}
}

// CopyMail copies m with its command and its answer.
func CopyMail(m api.Mail) api.Mail {
	next := m
	next.C = CopyCmd(m.C)
	next.A = CopyAnswer(m.A)
	return next
}

// CopyWorld copies w with all that is in it.
func CopyWorld(w api.World) api.World {
	return api.World{
		H:    CopyHall(w.H),
		D:    CopyDisk(w.D),
		Up:   w.Up,
		Hand: each(w.Hand, CopyHand),
		Mail: each(w.Mail, CopyMail),
	}
}

// list copies what l has, but not the room to spare behind it.
func list[T any](l []T) []T {
	out := make([]T, len(l))
	copy(out, l)
	return out
}

// each answers what one makes of each of l.
func each[T any](l []T, one func(T) T) []T {
	out := make([]T, len(l))
	for i, x := range l {
		out[i] = one(x)
	}
	return out
}
