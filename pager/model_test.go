package pager_test

import (
	"bytes"
	"slices"
	"testing"

	"grommet/api"
	"grommet/block"
)

// slot is a frame of a model: of which page it is, by its memory and number, if it has one.
type slot struct {
	mem, page        int
	bytes            []byte // none without a page
	touched, changed bool
}

// saved is a page's block.
type saved struct {
	mem, page, id int
}

// model is what chapter 7 tells of a pager, written out over lists; it has a store of its own.
type model struct {
	store *block.Store
	slots []slot
	saved []saved
	gone  int // the slot that was let go last
	fault api.Errno
}

// block is the place among the saved pages of one; -1, if it has no block.
func (m *model) block(mem, page int) int {
	return slices.IndexFunc(m.saved, func(s saved) bool { return s.mem == mem && s.page == page })
}

// free frees the block of a saved page.
func (m *model) free(i int) {
	if i >= 0 && m.fault == api.OK {
		m.fault = m.store.Free(m.saved[i].id)
		m.saved = slices.Delete(m.saved, i, i+1)
	}
}

// save writes a slot's page as if it was let go.
func (m *model) save(s *slot) {
	i := m.block(s.mem, s.page)
	if bytes.Equal(s.bytes, make([]byte, 16)) {
		m.free(i)
		return
	}
	if !s.changed {
		return
	}
	if i < 0 {
		id, e := m.store.Alloc()
		if m.fault = e; e != api.OK {
			return
		}
		m.saved = append(m.saved, saved{s.mem, s.page, id})
		i = len(m.saved) - 1
	}
	m.fault = m.store.Write(m.saved[i].id, s.bytes)
	s.changed = false
}

// empty is a slot without a page: the first one, or one that is let go.
func (m *model) empty() *slot {
	for i := range m.slots {
		if m.slots[i].bytes == nil {
			return &m.slots[i]
		}
	}
	for i := 1; ; i++ {
		n := (m.gone + i) % len(m.slots)
		s := &m.slots[n]
		if s.touched {
			s.touched = false
			continue
		}
		m.gone = n
		m.save(s)
		if m.fault == api.OK {
			*s = slot{}
		}
		return s
	}
}

// want is the slot of a page, if nothing fails.
func (m *model) want(mem, page int) *slot {
	for i := range m.slots {
		if s := &m.slots[i]; s.bytes != nil && s.mem == mem && s.page == page {
			s.touched = true
			return s
		}
	}
	s := m.empty()
	if m.fault != api.OK {
		return s
	}
	b := make([]byte, 16)
	if i := m.block(mem, page); i >= 0 {
		b, m.fault = m.store.Read(m.saved[i].id)
	}
	if m.fault == api.OK {
		*s = slot{mem: mem, page: page, bytes: b, touched: true}
	}
	return s
}

// reach is what Read and Write answer of their arguments, and the slot, if that is OK.
func (m *model) reach(mem, page, at, n int) (*slot, api.Errno) {
	switch {
	case m.fault != api.OK:
		return nil, api.ErrState
	case mem < 0 || page < 0:
		return nil, api.ErrArg
	case at < 0 || n < 0 || at+n > 16:
		return nil, api.ErrRange
	}
	s := m.want(mem, page)
	return s, m.fault
}

// drop is what Drop answers.
func (m *model) drop(mem int) api.Errno {
	if m.fault != api.OK {
		return api.ErrState
	}
	if mem < 0 {
		return api.ErrArg
	}
	for page := range 8 {
		m.free(m.block(mem, page))
	}
	for i := range m.slots {
		if m.fault == api.OK && m.slots[i].bytes != nil && m.slots[i].mem == mem {
			m.slots[i] = slot{}
		}
	}
	return m.fault
}

// flush is what Flush answers.
func (m *model) flush() api.Errno {
	if m.fault != api.OK {
		return api.ErrState
	}
	for i := range m.slots {
		if m.fault == api.OK && m.slots[i].bytes != nil {
			m.save(&m.slots[i])
		}
	}
	return m.fault
}

// resident is how many slots have a page.
func (m *model) resident() int {
	n := 0
	for _, s := range m.slots {
		if s.bytes != nil {
			n++
		}
	}
	return n
}

// step does the same with a pager and its model: what is told by the numbers that next answers.
func step(t *testing.T, d device, m *model, next func(int) int) {
	t.Helper()
	mem, page := next(4)-next(2)*next(2), next(5)-next(2)*next(2)
	at, n := next(19)-1, next(1<<next(5))-1
	if next(4) > 0 {
		at, n = next(16), 1
	}
	switch r := next(100); {
	case r < 40:
		s, want := m.reach(mem, page, at, n)
		b, e := d.Read(mem, page, at, n)
		if e != want || e != api.OK && b != nil || e == api.OK && !bytes.Equal(b, s.bytes[at:at+n]) {
			t.Fatalf("Read(%d, %d, %d, %d): %v, %d, not %d", mem, page, at, n, b, e, want)
		}
	case r < 90:
		b := bytes.Repeat([]byte{byte(next(4) * next(2))}, max(n, 0))
		s, want := m.reach(mem, page, at, len(b))
		if want == api.OK && len(b) > 0 {
			copy(s.bytes[at:], b)
			s.changed = true
		}
		if e := d.Write(mem, page, at, b); e != want {
			t.Fatalf("Write(%d, %d, %d, %v): %d, not %d", mem, page, at, b, e, want)
		}
	case r < 95:
		want := m.drop(mem)
		if e := d.Drop(mem); e != want {
			t.Fatalf("Drop(%d): %d, not %d", mem, e, want)
		}
	case r < 99:
		want := m.flush()
		if e := d.Flush(); e != want {
			t.Fatalf("Flush: %d, not %d", e, want)
		}
	default:
		fail := m.store.Ops() + next(30)
		if next(4) > 0 {
			fail = -1
		}
		m.store.FailAt(fail)
		d.store.FailAt(fail)
	}
}

// same holds a pager, and its store, against the model, and that one's.
func same(t *testing.T, d device, m *model) {
	t.Helper()
	if d.Fault() != m.fault {
		t.Fatalf("Fault %d, not %d", d.Fault(), m.fault)
	}
	if m.fault == api.OK && d.Resident() != m.resident() {
		t.Fatalf("Resident %d, not %d", d.Resident(), m.resident())
	}
	if d.store.Ops() != m.store.Ops() || d.store.Used() != m.store.Used() || d.store.Peak() != m.store.Peak() {
		t.Fatalf("Ops %d, Used %d, Peak %d, not %d, %d, %d", d.store.Ops(), d.store.Used(), d.store.Peak(), m.store.Ops(), m.store.Used(), m.store.Peak())
	}
}

// sameBlocks holds all blocks of a pager's store against those of the model's.
func sameBlocks(t *testing.T, d device, m *model) {
	t.Helper()
	d.store.FailAt(-1)
	m.store.FailAt(-1)
	for id := range d.store.Capacity() {
		want, we := m.store.Read(id)
		if b, e := d.store.Read(id); !bytes.Equal(b, want) || e != we {
			t.Fatalf("block %d: %v, %d, not %v, %d", id, b, e, want, we)
		}
	}
}

// TestAsModel is of P7.1 and P7.2: whatever is done with a pager, in whatever order, it answers what the chapter tells, by the same operations.
func TestAsModel(t *testing.T) {
	seed := uint32(7)
	next := func(n int) int {
		seed = seed*1664525 + 1013904223
		return int(uint64(seed) * uint64(n) >> 32)
	}
	for round := range 1500 {
		frames, capacity := 1+next(6), 4+next(20)
		d := made(t, frames, capacity)
		m := &model{store: blocks(t, 16, capacity), slots: make([]slot, frames), gone: frames - 1}
		for range 20 + round%200 {
			step(t, d, m, next)
			same(t, d, m)
		}
		sameBlocks(t, d, m)
	}
}

// TestLastWritten is of P7.3: what was written last is read, of all pages, however few frames there are, with as many blocks as there are pages.
func TestLastWritten(t *testing.T) {
	seed := uint32(3)
	next := func(n int) int {
		seed = seed*1664525 + 1013904223
		return int(uint64(seed) * uint64(n) >> 32)
	}
	for _, frames := range []int{1, 2, 3, 7, 63, 64} {
		d := made(t, frames, 3*30)
		var all [3][30][16]byte
		for range 20000 {
			mem, page, at := next(3), next(30), next(16)
			switch r := next(100); {
			case r < 45:
				b := bytes.Repeat([]byte{byte(next(3))}, next(17-at))
				copy(all[mem][page][at:], b)
				d.write(t, mem, page, at, b...)
			case r < 98:
				d.reads(t, mem, page, at, all[mem][page][at:]...)
			case r < 99:
				d.flush(t)
			default:
				all[mem] = [30][16]byte{}
				d.drop(t, mem)
			}
		}
		d.works(t)
		for mem := range all {
			for page := range all[mem] {
				d.reads(t, mem, page, 0, all[mem][page][:]...)
			}
		}
	}
}
