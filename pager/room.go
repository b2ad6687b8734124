package pager

import (
	"grommet/api"
	"grommet/arena"
)

// take takes a room for each of so many frames; none, if there aren't as many.
func take(a *arena.Arena, size, frames int) ([]int, api.Errno) {
	class, height := arena.Class(size), a.Height()
	// So many, as no more than the others can be cut off, must have been given back.
	again := frames - (a.Size()-height)/class
	if again > (height-a.Live())/class {
		return nil, api.ErrFull
	}
	var was []byte
	if again > 0 {
		was, _ = a.Bytes(0, a.Size())
	}
	var rooms []int
	for len(rooms) < frames {
		at, e := a.Take(size)
		if e == api.OK {
			rooms = append(rooms, at)
		}
		if e != api.OK || len(rooms) <= again && a.Height() > height {
			undo(a, rooms, was)
			return nil, api.ErrFull
		}
	}
	return rooms, api.OK
}

// undo gives rooms back, the last one first, so that they are taken in the same order again, and puts bytes back that were there: no later call should tell that they were taken.
func undo(a *arena.Arena, rooms []int, was []byte) {
	for i := len(rooms) - 1; i >= 0; i-- {
		a.Give(rooms[i])
	}
	a.Copy(0, was)
}
