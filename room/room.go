// Package room tells whether an arena has rooms, and leaves it as it was: who takes two of them mustn't have taken one where the other one isn't there.
package room

import (
	"slices"

	"grommet/api"
	"grommet/arena"
)

// trial is rooms that are taken to find out whether there are any.
type trial struct {
	arena *arena.Arena
	taken []int
	was   []byte // the arena's bytes ahead of it
}

// take takes a room of a class, if there is one.
func (t *trial) take(class int) bool {
	at, e := t.arena.Take(class)
	if e == api.OK {
		t.taken = append(t.taken, at)
	}
	return e == api.OK
}

// end gives all rooms back, the last one first, so that they are taken in the same order again, and puts the bytes back that were there.
func (t *trial) end() {
	for _, at := range slices.Backward(t.taken) {
		t.arena.Give(at)
	}
	t.arena.Copy(0, t.was)
}

// Both tells whether an arena has two rooms for so many bytes.
func Both(a *arena.Arena, one, other int) bool {
	small, big := arena.Class(min(one, other)), arena.Class(max(one, other))
	left := a.Size() - a.Height()
	if small+big <= left {
		return true
	}
	t := &trial{arena: a}
	t.was, _ = a.Bytes(0, a.Size())
	defer t.end()
	if big <= left {
		return t.again(small, big)
	}
	// Where nothing can be cut off, only rooms that were given back are taken: giving these back undoes it.
	return t.take(big) && (small <= left || t.take(small))
}

// again tells whether a room of one of two classes was given back, where the other one can be cut off, whichever that is, but not both.
func (t *trial) again(small, big int) bool {
	given := t.arena.Height() - t.arena.Live()
	// Of greater classes none can be cut off.
	for class := 2 * big; class <= given; class *= 2 {
		for t.take(class) {
			given -= class
		}
	}
	if given < small {
		return false
	}
	if small == arena.Class(0) && big <= 2*small {
		// There are no other classes, so what is left of given is of these two.
		return true
	}
	height := t.arena.Height()
	t.take(small)
	return t.arena.Height() == height || t.take(big)
}
