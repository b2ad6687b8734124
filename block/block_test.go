package block_test

import (
	"bytes"
	"math"
	"slices"
	"sync"
	"sync/atomic"
	"testing"

	"grommet/api"
	"grommet/block"
)

// made is a store that may be.
func made(t *testing.T, size, capacity int) *block.Store {
	t.Helper()
	s, e := block.New(size, capacity)
	if s == nil || e != api.OK {
		t.Fatalf("New(%d, %d): %v, %d", size, capacity, s, e)
	}
	return s
}

// taken is a store of 16 bytes a block, of which n of capacity are in use.
func taken(t *testing.T, n, capacity int) *block.Store {
	t.Helper()
	s := made(t, 16, capacity)
	for range n {
		alloc(t, s)
	}
	return s
}

// alloc is a block that is taken now.
func alloc(t *testing.T, s *block.Store) int {
	t.Helper()
	id, e := s.Alloc()
	if e != api.OK {
		t.Fatalf("Alloc: %d, %d", id, e)
	}
	return id
}

// sixteen is a block's bytes, all of which are v.
func sixteen(v byte) []byte {
	return bytes.Repeat([]byte{v}, 16)
}

// counts is what a store tells of itself.
type counts struct {
	used, peak, ops int
	failed          bool
}

// holds holds what a store tells of itself against what it must.
func holds(t *testing.T, s *block.Store, want counts) {
	t.Helper()
	if got := (counts{s.Used(), s.Peak(), s.Ops(), s.Failed()}); got != want {
		t.Fatalf("%+v, not %+v", got, want)
	}
}

// TestNew is of P3.1: the smallest and the greatest sizes and capacities, and those beyond.
func TestNew(t *testing.T) {
	numbers := []int{math.MinInt, -16, -1, 0, 1, 15, 16, 17, 1023, 1024, 1025, 4095, 4096, 4097, math.MaxInt}
	for _, size := range numbers {
		for _, capacity := range numbers {
			s, e := block.New(size, capacity)
			if size < 16 || size > 1024 || capacity < 0 || capacity > 4096 {
				if s != nil || e != api.ErrArg {
					t.Errorf("New(%d, %d): %v, %d", size, capacity, s, e)
				}
				continue
			}
			if s == nil || e != api.OK || s.Size() != size || s.Capacity() != capacity {
				t.Fatalf("New(%d, %d): %d, Size %d, Capacity %d", size, capacity, e, s.Size(), s.Capacity())
			}
			holds(t, s, counts{})
		}
	}
}

// TestFull is of P3.1 and P3.2: blocks are taken from 0 on, till none is free; an Alloc of a store that is full is an operation, but hasn't failed.
func TestFull(t *testing.T) {
	for _, c := range [][2]int{{16, 0}, {16, 1}, {17, 5}, {1024, 0}, {16, 4096}, {1024, 4096}} {
		size, capacity := c[0], c[1]
		s := made(t, size, capacity)
		for i := range capacity {
			if id, e := s.Alloc(); id != i || e != api.OK {
				t.Fatalf("Alloc: %d, %d, not %d", id, e, i)
			}
			holds(t, s, counts{used: i + 1, peak: i + 1, ops: i + 1})
		}
		for i := range 2 {
			if id, e := s.Alloc(); id != 0 || e != api.ErrFull {
				t.Errorf("Alloc of a store that is full: %d, %d", id, e)
			}
			holds(t, s, counts{used: capacity, peak: capacity, ops: capacity + i + 1})
		}
		if capacity == 0 {
			continue
		}
		if b, e := s.Read(capacity - 1); !bytes.Equal(b, make([]byte, size)) || e != api.OK {
			t.Errorf("Read: %v, %d", b, e)
		}
		if e := s.Free(capacity - 1); e != api.OK {
			t.Errorf("Free: %d", e)
		}
		if id := alloc(t, s); id != capacity-1 {
			t.Errorf("Alloc: %d, not %d", id, capacity-1)
		}
	}
}

// TestLowest is of P3.1: the lowest block that is free is taken, in whatever order they were given back.
func TestLowest(t *testing.T) {
	for _, c := range []struct{ freed, had []int }{
		{[]int{0}, []int{0, 6}},
		{[]int{5}, []int{5, 6}},
		{[]int{4, 1}, []int{1, 4, 6}},
		{[]int{1, 4}, []int{1, 4, 6}},
		{[]int{3, 0, 5, 2}, []int{0, 2, 3, 5, 6, 7}},
		{[]int{5, 4, 3, 2, 1, 0}, []int{0, 1, 2, 3, 4, 5, 6}},
		{[]int{0, 1, 2, 3, 4, 5}, []int{0, 1, 2, 3, 4, 5, 6}},
	} {
		s := taken(t, 6, 8)
		for _, id := range c.freed {
			if e := s.Free(id); e != api.OK {
				t.Fatalf("Free(%d): %d", id, e)
			}
		}
		for _, want := range c.had {
			if id := alloc(t, s); id != want {
				t.Errorf("%v free: Alloc: %d, not %d", c.freed, id, want)
			}
		}
	}
}

// TestZeroAgain is of P3.1: a block's bytes are 0 when it is had, and when it is had again.
func TestZeroAgain(t *testing.T) {
	s := made(t, 16, 2)
	for range 3 {
		id := alloc(t, s)
		if b, e := s.Read(id); !bytes.Equal(b, sixteen(0)) || e != api.OK {
			t.Errorf("Read of a new block: %v, %d", b, e)
		}
		if e := s.Write(id, sixteen(255)); e != api.OK {
			t.Errorf("Write: %d", e)
		}
		if e := s.Free(id); e != api.OK {
			t.Errorf("Free: %d", e)
		}
	}
}

// TestWritten is of P3.1 and P3.3: what was written last is read, of each block its own, as often as one likes.
func TestWritten(t *testing.T) {
	s := taken(t, 3, 3)
	for round := range byte(3) {
		for id := range 3 {
			if e := s.Write(id, sixteen(10*round+byte(id))); e != api.OK {
				t.Errorf("Write(%d): %d", id, e)
			}
		}
		for range 2 {
			for id := range 3 {
				if b, e := s.Read(id); !bytes.Equal(b, sixteen(10*round+byte(id))) || e != api.OK {
					t.Errorf("Read(%d): %v, %d", id, b, e)
				}
			}
		}
	}
	s.Free(1)
	for _, id := range []int{0, 2} {
		if b, _ := s.Read(id); !bytes.Equal(b, sixteen(20+byte(id))) {
			t.Errorf("Read(%d) behind Free(1): %v", id, b)
		}
	}
}

// TestCopies is of P3.3: neither what was handed in nor what was answered is the store's own.
func TestCopies(t *testing.T) {
	s := taken(t, 1, 1)
	room := append(sixteen(1), sixteen(2)...)
	if e := s.Write(0, room[:16]); e != api.OK {
		t.Fatalf("Write: %d", e)
	}
	if !bytes.Equal(room, append(sixteen(1), sixteen(2)...)) {
		t.Errorf("what was handed in is now %v", room)
	}
	clear(room)
	for range 2 {
		b, e := s.Read(0)
		if !bytes.Equal(b, sixteen(1)) || e != api.OK {
			t.Errorf("Read: %v, %d", b, e)
		}
		clear(b[:cap(b)])
	}
}

// TestNotInUse is of P3.1: a block that isn't in use is told ahead of a wrong length, and ahead of a fault, and is no operation.
func TestNotInUse(t *testing.T) {
	s := taken(t, 3, 5)
	s.Free(1)
	for _, fail := range []int{-1, 0} {
		s.FailAt(fail)
		for _, id := range []int{math.MinInt, -1, 1, 3, 4, 5, 6, 4096, math.MaxInt} {
			if e := s.Free(id); e != api.ErrRange {
				t.Errorf("Free(%d): %d", id, e)
			}
			if b, e := s.Read(id); b != nil || e != api.ErrRange {
				t.Errorf("Read(%d): %v, %d", id, b, e)
			}
			for _, n := range []int{0, 15, 16, 17} {
				if e := s.Write(id, make([]byte, n)); e != api.ErrRange {
					t.Errorf("Write(%d) of %d bytes: %d", id, n, e)
				}
			}
		}
	}
	holds(t, s, counts{used: 2, peak: 3, ops: 4})
}

// TestFreedTwice is of P3.1 and P3.3: a block that was given back isn't given back once more, so that it isn't in use twice.
func TestFreedTwice(t *testing.T) {
	s := taken(t, 2, 4)
	if e := s.Free(0); e != api.OK {
		t.Errorf("Free: %d", e)
	}
	if e := s.Free(0); e != api.ErrRange {
		t.Errorf("Free of one that is free: %d", e)
	}
	for _, want := range []int{0, 2, 3} {
		if id := alloc(t, s); id != want {
			t.Errorf("Alloc: %d, not %d", id, want)
		}
	}
}

// TestWrongLength is of P3.1: more or fewer bytes than a block has are told ahead of a fault, are no operation, and change nothing.
func TestWrongLength(t *testing.T) {
	s := taken(t, 1, 1)
	s.Write(0, sixteen(7))
	for _, fail := range []int{-1, 0} {
		s.FailAt(fail)
		for _, n := range []int{0, 1, 15, 17, 32, 1024, 1 << 20} {
			if e := s.Write(0, make([]byte, n)); e != api.ErrArg {
				t.Errorf("Write of %d bytes: %d", n, e)
			}
		}
		if e := s.Write(0, nil); e != api.ErrArg {
			t.Errorf("Write of nil: %d", e)
		}
	}
	s.FailAt(-1)
	holds(t, s, counts{used: 1, peak: 1, ops: 2})
	if b, _ := s.Read(0); !bytes.Equal(b, sixteen(7)) {
		t.Errorf("Read: %v", b)
	}
}

// TestGreatestBlock is of P3.1: a block of the greatest size is written as a whole.
func TestGreatestBlock(t *testing.T) {
	s := made(t, 1024, 1)
	alloc(t, s)
	want := bytes.Repeat([]byte("0123456789abcdef"), 64)
	for _, n := range []int{1023, 1025} {
		if e := s.Write(0, make([]byte, n)); e != api.ErrArg {
			t.Errorf("Write of %d bytes: %d", n, e)
		}
	}
	if e := s.Write(0, want); e != api.OK {
		t.Errorf("Write: %d", e)
	}
	if b, e := s.Read(0); !bytes.Equal(b, want) || e != api.OK {
		t.Errorf("Read: %v, %d", b, e)
	}
}

// operation is the i-th one of a row that all are OK, if none fails, of a store whose first 20 blocks are in use.
func operation(s *block.Store, i int) api.Errno {
	switch i % 4 {
	case 0:
		_, e := s.Read(0)
		return e
	case 1:
		return s.Write(0, sixteen(byte(i)))
	case 2:
		_, e := s.Alloc()
		return e
	}
	return s.Free(i)
}

// refused is calls that their arguments refuse.
func refused(s *block.Store) {
	s.Read(-1)
	s.Free(99)
	s.Write(0, nil)
	s.Write(99, sixteen(0))
}

// TestFailAt is of P3.1 and P3.2: the n-th operation and each one behind it fails, counted from 0 on, whatever it is; those that fail are counted, those that are refused aren't.
func TestFailAt(t *testing.T) {
	for _, n := range []int{math.MinInt, -1, 0, 19, 20, 21, 22, 23, 24, 27, 28, math.MaxInt} {
		s := taken(t, 20, 40)
		s.FailAt(n)
		for i := range 8 {
			refused(s)
			fails := n >= 0 && 20+i >= n
			want := api.OK
			if fails {
				want = api.ErrFault
			}
			if e := operation(s, i); e != want || s.Ops() != 21+i || s.Failed() != fails {
				t.Errorf("FailAt(%d), operation %d: %d, Ops %d, Failed %t", n, 20+i, e, s.Ops(), s.Failed())
			}
		}
	}
}

// TestFaultDoesNothing is of P3.1: an operation that fails changes nothing, and answers nothing.
func TestFaultDoesNothing(t *testing.T) {
	s := taken(t, 2, 3)
	s.Write(0, sixteen(1))
	s.FailAt(0)
	if id, e := s.Alloc(); id != 0 || e != api.ErrFault {
		t.Errorf("Alloc: %d, %d", id, e)
	}
	if e := s.Free(1); e != api.ErrFault {
		t.Errorf("Free: %d", e)
	}
	if b, e := s.Read(0); b != nil || e != api.ErrFault {
		t.Errorf("Read: %v, %d", b, e)
	}
	if e := s.Write(0, sixteen(2)); e != api.ErrFault {
		t.Errorf("Write: %d", e)
	}
	holds(t, s, counts{used: 2, peak: 2, ops: 7, failed: true})
	s.FailAt(-1)
	if b, e := s.Read(0); !bytes.Equal(b, sixteen(1)) || e != api.OK {
		t.Errorf("Read behind a fault: %v, %d", b, e)
	}
	if b, e := s.Read(1); !bytes.Equal(b, sixteen(0)) || e != api.OK {
		t.Errorf("Read behind a fault: %v, %d", b, e)
	}
	if id, e := s.Alloc(); id != 2 || e != api.OK {
		t.Errorf("Alloc behind a fault: %d, %d", id, e)
	}
	holds(t, s, counts{used: 3, peak: 3, ops: 10, failed: true})
}

// TestFaultAheadOfFull is of P3.1: an Alloc that fails tells that, also of a store that is full.
func TestFaultAheadOfFull(t *testing.T) {
	for _, capacity := range []int{0, 1} {
		s := taken(t, capacity, capacity)
		s.FailAt(s.Ops() + 1)
		if id, e := s.Alloc(); id != 0 || e != api.ErrFull || s.Failed() {
			t.Errorf("Alloc: %d, %d, Failed %t", id, e, s.Failed())
		}
		if id, e := s.Alloc(); id != 0 || e != api.ErrFault || !s.Failed() {
			t.Errorf("Alloc: %d, %d, Failed %t", id, e, s.Failed())
		}
	}
}

// TestFailAtAgain is of P3.1: operations are numbered from the first one on, whenever it is scripted, and what was scripted last holds.
func TestFailAtAgain(t *testing.T) {
	s := taken(t, 1, 1)
	failed := false
	for _, c := range []struct {
		at int
		e  api.Errno
	}{{-1, api.OK}, {3, api.OK}, {3, api.ErrFault}, {5, api.OK}, {5, api.ErrFault}, {0, api.ErrFault}, {-7, api.OK}} {
		s.FailAt(c.at)
		failed = failed || c.e != api.OK
		if _, e := s.Read(0); e != c.e || s.Failed() != failed {
			t.Errorf("FailAt(%d), operation %d: %d, Failed %t", c.at, s.Ops()-1, e, s.Failed())
		}
	}
}

// TestPeak is of P3.2: how many were in use at most stays, when fewer are.
func TestPeak(t *testing.T) {
	s := taken(t, 3, 5)
	s.Free(2)
	s.Free(0)
	holds(t, s, counts{used: 1, peak: 3, ops: 5})
	alloc(t, s)
	alloc(t, s)
	holds(t, s, counts{used: 3, peak: 3, ops: 7})
	alloc(t, s)
	holds(t, s, counts{used: 4, peak: 4, ops: 8})
	for id := range 4 {
		s.Free(id)
	}
	holds(t, s, counts{used: 0, peak: 4, ops: 12})
}

// TestNilStore is of P3.1 and P3.2.
func TestNilStore(t *testing.T) {
	var s *block.Store
	for _, n := range []int{math.MinInt, -1, 0, 1, math.MaxInt} {
		s.FailAt(n)
		if e := s.Free(n); e != api.ErrState {
			t.Errorf("Free(%d): %d", n, e)
		}
		if b, e := s.Read(n); b != nil || e != api.ErrState {
			t.Errorf("Read(%d): %v, %d", n, b, e)
		}
		if e := s.Write(n, nil); e != api.ErrState {
			t.Errorf("Write(%d): %d", n, e)
		}
	}
	if id, e := s.Alloc(); id != 0 || e != api.ErrState {
		t.Errorf("Alloc: %d, %d", id, e)
	}
	if s.Size() != 0 || s.Capacity() != 0 {
		t.Errorf("Size %d, Capacity %d", s.Size(), s.Capacity())
	}
	holds(t, s, counts{})
}

// TestStoresApart is of P3.1: what is done with a store changes no other one.
func TestStoresApart(t *testing.T) {
	s, other := taken(t, 1, 2), taken(t, 1, 2)
	s.Write(0, sixteen(1))
	s.FailAt(0)
	alloc(t, other)
	if b, e := other.Read(0); !bytes.Equal(b, sixteen(0)) || e != api.OK {
		t.Errorf("Read: %v, %d", b, e)
	}
	holds(t, s, counts{used: 1, peak: 1, ops: 2})
	holds(t, other, counts{used: 2, peak: 2, ops: 3})
}

// model is what chapter 3 tells of a store, written out over a list of all its blocks.
type model struct {
	counts
	blocks [][]byte // nil is free
	fail   int
}

// operate counts an operation.
func (m *model) operate() api.Errno {
	m.ops++
	if m.fail >= 0 && m.ops > m.fail {
		m.failed = true
		return api.ErrFault
	}
	return api.OK
}

// alloc is what Alloc answers.
func (m *model) alloc() (int, api.Errno) {
	if e := m.operate(); e != api.OK {
		return 0, e
	}
	id := slices.IndexFunc(m.blocks, func(b []byte) bool { return b == nil })
	if id < 0 {
		return 0, api.ErrFull
	}
	m.blocks[id] = sixteen(0)
	m.used++
	m.peak = max(m.peak, m.used)
	return id, api.OK
}

// on is what an operation of a block answers that hands in n bytes, or as many as a block has.
func (m *model) on(id, n int) api.Errno {
	if id < 0 || id >= len(m.blocks) || m.blocks[id] == nil {
		return api.ErrRange
	}
	if n != 16 {
		return api.ErrArg
	}
	return m.operate()
}

// step does the same with a store and its model: what is told by r, and by the numbers that next answers.
func step(t *testing.T, s *block.Store, m *model, r int, next func(int) int) {
	t.Helper()
	id := next(len(m.blocks)+2) - 1
	switch {
	case r < 8:
		want, we := m.alloc()
		if got, e := s.Alloc(); got != want || e != we {
			t.Fatalf("Alloc: %d, %d, not %d, %d", got, e, want, we)
		}
	case r < 14:
		want := m.on(id, 16)
		if want == api.OK {
			m.blocks[id] = nil
			m.used--
		}
		if e := s.Free(id); e != want {
			t.Fatalf("Free(%d): %d, not %d", id, e, want)
		}
	case r < 22:
		b := bytes.Repeat([]byte{byte(next(256))}, 15+(next(8)+7)/7)
		want := m.on(id, len(b))
		if want == api.OK {
			copy(m.blocks[id], b)
		}
		if e := s.Write(id, b); e != want {
			t.Fatalf("Write(%d) of %d bytes: %d, not %d", id, len(b), e, want)
		}
	case r < 31:
		want := m.on(id, 16)
		b, e := s.Read(id)
		if e != want || e != api.OK && b != nil || e == api.OK && !bytes.Equal(b, m.blocks[id]) {
			t.Fatalf("Read(%d): %v, %d, not %d", id, b, e, want)
		}
	default:
		m.fail = m.ops + next(40)
		if next(3) > 0 {
			m.fail = -1
		}
		s.FailAt(m.fail)
	}
	holds(t, s, m.counts)
}

// TestAsModel is of P3.1 to P3.3: whatever is done with a store, in whatever order, it answers what the chapter tells.
func TestAsModel(t *testing.T) {
	seed := uint32(1)
	next := func(n int) int {
		seed = seed*1664525 + 1013904223
		return int(seed>>8) % n
	}
	for capacity := range 12 {
		s := made(t, 16, capacity)
		m := &model{blocks: make([][]byte, capacity), fail: -1}
		for range 4000 {
			step(t, s, m, next(32), next)
		}
	}
}

// TestReadsAtOnce is of P3.2: each operation has a number of its own, also if many read at once.
func TestReadsAtOnce(t *testing.T) {
	const readers, each, fail = 8, 20000, 30000
	s := taken(t, 1, 1)
	s.FailAt(fail)
	var failed atomic.Int64
	var all sync.WaitGroup
	for range readers {
		all.Go(func() {
			for range each {
				if _, e := s.Read(0); e == api.ErrFault {
					failed.Add(1)
				}
			}
		})
	}
	all.Wait()
	holds(t, s, counts{used: 1, peak: 1, ops: readers*each + 1, failed: true})
	if failed.Load() != readers*each+1-fail {
		t.Errorf("%d failed", failed.Load())
	}
}
