package space

import (
	"bytes"

	"grommet/api"
)

// Load is bytes.
func (m *Memory) Load(at, offset uint64, n int) ([]byte, api.Trap, api.Errno) {
	if trap, e := m.asked(at, offset, n); trap != api.NoTrap || e != api.OK {
		return nil, trap, e
	}
	b, e := m.read(at+offset, n)
	return b, api.NoTrap, e
}

// Store puts bytes.
func (m *Memory) Store(at, offset uint64, b []byte) (api.Trap, api.Errno) {
	if trap, e := m.asked(at, offset, len(b)); trap != api.NoTrap || e != api.OK {
		return trap, e
	}
	return api.NoTrap, m.write(at+offset, b)
}

// Fill fills bytes.
func (m *Memory) Fill(at uint64, v byte, n uint64) (api.Trap, api.Errno) {
	switch {
	case m == nil:
		return api.NoTrap, api.ErrState
	case m.beyond(at, 0, n):
		return api.Bounds, api.OK
	case n > MaxBulk:
		return api.NoTrap, api.ErrLong
	}
	same := bytes.Repeat([]byte{v}, min(int(n), m.pager.Size()))
	for x := range m.parts(at, int(n)) {
		if e := m.pager.Write(m.number, x.page, x.at, same[:x.to-x.from]); e != api.OK {
			return api.NoTrap, e
		}
	}
	return api.NoTrap, api.OK
}

// Copy copies bytes of a memory.
func (m *Memory) Copy(from *Memory, to, at, n uint64) (api.Trap, api.Errno) {
	switch {
	case m == nil || from == nil:
		return api.NoTrap, api.ErrState
	case m.beyond(to, 0, n) || from.beyond(at, 0, n):
		return api.Bounds, api.OK
	case n > MaxBulk:
		return api.NoTrap, api.ErrLong
	}
	// All are read ahead of the first one that is written: both places may meet, and another pager that breaks mustn't leave some of them here.
	b, e := from.read(at, int(n))
	if e != api.OK {
		return api.NoTrap, e
	}
	return api.NoTrap, m.write(to, b)
}

// asked is what keeps n bytes from being loaded or stored, whatever the pager answers.
func (m *Memory) asked(at, offset uint64, n int) (api.Trap, api.Errno) {
	switch {
	case m == nil:
		return api.NoTrap, api.ErrState
	case n < 0:
		return api.NoTrap, api.ErrArg
	case n > MaxBulk:
		return api.NoTrap, api.ErrLong
	case m.beyond(at, offset, uint64(n)):
		return api.Bounds, api.OK
	}
	return api.NoTrap, api.OK
}

// beyond tells whether n bytes from at+offset on aren't all in the memory's pages.
func (m *Memory) beyond(at, offset, n uint64) bool {
	left := uint64(m.pages) * api.PageSize
	// Held against what is left one by one, since their sum may be beyond all numbers.
	for _, more := range [...]uint64{at, offset, n} {
		if more > left {
			return true
		}
		left -= more
	}
	return false
}
