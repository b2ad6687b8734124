package space

import (
	"iter"

	"grommet/api"
)

// part is those bytes of an access that stand in one page of the pager.
type part struct {
	page, at int // in which page, and where in it
	from, to int // which ones of the access's bytes
}

// parts yields the parts of an access, page by page: of n bytes from a place on.
func (m *Memory) parts(place uint64, n int) iter.Seq[part] {
	return func(yield func(part) bool) {
		size := uint64(m.pager.Size())
		for from := 0; from < n; {
			at := place % size
			to := min(n, from+int(size-at))
			if !yield(part{page: int(place / size), at: int(at), from: from, to: to}) {
				return
			}
			place += size - at
			from = to
		}
	}
}

// read is n bytes that are there, from a place on.
func (m *Memory) read(place uint64, n int) ([]byte, api.Errno) {
	out := make([]byte, 0, n)
	for x := range m.parts(place, n) {
		b, e := m.pager.Read(m.number, x.page, x.at, x.to-x.from)
		if e != api.OK {
			return nil, e
		}
		out = append(out, b...)
	}
	return out, api.OK
}

// write puts bytes, which have room, from a place on.
func (m *Memory) write(place uint64, b []byte) api.Errno {
	for x := range m.parts(place, len(b)) {
		if e := m.pager.Write(m.number, x.page, x.at, b[x.from:x.to]); e != api.OK {
			return e
		}
	}
	return api.OK
}
