package state

import (
	"grommet/api"
	"grommet/module"
	"grommet/space"
)

// open lets it have its memories.
func (s *State) open() api.Errno {
	for i, l := range s.module.Mems {
		m, e := space.New(s.pager, s.number+i, l.Min, l.Most(api.MaxPages), l.Wide)
		if e != api.OK {
			return e
		}
		s.mems = append(s.mems, m)
	}
	return api.OK
}

// begin lets it be as it is at first. Data is put ahead of taking the rooms, though it stands behind elements: where the pager fails, they mustn't have been taken, not even for a time.
func (s *State) begin() (api.Trap, api.Errno) {
	elems, trap := s.fitting()
	if trap == api.NoTrap {
		var e api.Errno
		if trap, e = s.load(); e != api.OK {
			return api.NoTrap, e
		}
	}
	s.fill(elems)
	return trap, api.OK
}

// fitting is the elements up to the first one that doesn't fit into the table, and the trap, if there is such a one.
func (s *State) fitting() ([]module.Elem, api.Trap) {
	all := s.module.Elems
	for i, x := range all {
		// Held against what is left, as there may be more functions than places.
		left := s.places() - len(x.Funcs)
		if left < 0 || x.At > uint64(left) {
			return all[:i], api.Undefined
		}
	}
	return all, api.NoTrap
}

// load puts data into the memories, up to the first one that is beyond.
func (s *State) load() (api.Trap, api.Errno) {
	for _, x := range s.module.Datas {
		if trap, e := s.mems[x.Mem].Store(x.At, 0, x.Bytes); trap != api.NoTrap || e != api.OK {
			return trap, e
		}
	}
	return api.NoTrap, api.OK
}

// fill takes its rooms, which there are, and puts the globals' words there, and the functions of elements that fit.
func (s *State) fill(elems []module.Elem) {
	s.globals = s.take(wordSize, s.words)
	s.table = s.take(placeSize, s.places)
	for i, x := range s.module.Globals {
		s.arena.Put(s.globals+wordSize*i, wordSize, x.Value)
	}
	for _, x := range elems {
		for i, f := range x.Funcs {
			// One more than its number: 0, as a room's bytes are at first, is no function.
			s.arena.Put(s.table+placeSize*(int(x.At)+i), placeSize, uint64(f)+1)
		}
	}
}

// take takes a room for as many as are told, of so many bytes each.
func (s *State) take(size int, many func() int) int {
	at, _ := s.arena.Take(size * many())
	return at
}
