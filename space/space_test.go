package space_test

import (
	"bytes"
	"math"
	"testing"

	"grommet/api"
	"grommet/arena"
	"grommet/block"
	"grommet/pager"
	"grommet/space"
)

const page = api.PageSize

// numbers are those below 0, and very great ones.
var numbers = []int{math.MinInt, math.MinInt32, -1, math.MaxInt32, math.MaxInt - 1, math.MaxInt}

// device is a pager, and the store that it has.
type device struct {
	*pager.Pager
	store *block.Store
}

// made is a pager of so many frames, whose pages have size bytes, and of a store of so many blocks.
func made(t *testing.T, size, frames, capacity int) device {
	t.Helper()
	a, e := arena.New(frames * arena.Class(size))
	if e != api.OK {
		t.Fatalf("arena.New: %d", e)
	}
	s, e := block.New(size, capacity)
	if e != api.OK {
		t.Fatalf("block.New(%d, %d): %d", size, capacity, e)
	}
	p, e := pager.New(a, s, frames)
	if e != api.OK {
		t.Fatalf("pager.New of %d frames: %d", frames, e)
	}
	return device{p, s}
}

// memory is one that may be, of so many pages, and at most so many.
func (d device) memory(t *testing.T, number, pages, most int) *space.Memory {
	t.Helper()
	m, e := space.New(d.Pager, number, pages, most, false)
	if m == nil || e != api.OK {
		t.Fatalf("New(%d, %d, %d): %v, %d", number, pages, most, m, e)
	}
	return m
}

// idle holds that a pager was asked for nothing so far.
func (d device) idle(t *testing.T) {
	t.Helper()
	if d.Resident() != 0 || d.store.Ops() != 0 {
		t.Errorf("Resident %d, Ops %d", d.Resident(), d.store.Ops())
	}
}

// loads holds the bytes at a place against what they must be.
func loads(t *testing.T, m *space.Memory, at uint64, want ...byte) {
	t.Helper()
	if b, trap, e := m.Load(at, 0, len(want)); !bytes.Equal(b, want) || trap != api.NoTrap || e != api.OK {
		t.Fatalf("Load(%d) of %d bytes: %s, %d, %d, not %s", at, len(want), short(b), trap, e, short(want))
	}
}

// stores puts bytes that may be put.
func stores(t *testing.T, m *space.Memory, at uint64, b ...byte) {
	t.Helper()
	if trap, e := m.Store(at, 0, b); trap != api.NoTrap || e != api.OK {
		t.Fatalf("Store(%d) of %d bytes: %d, %d", at, len(b), trap, e)
	}
}

// fills fills bytes that may be filled.
func fills(t *testing.T, m *space.Memory, at uint64, v byte, n uint64) {
	t.Helper()
	if trap, e := m.Fill(at, v, n); trap != api.NoTrap || e != api.OK {
		t.Fatalf("Fill(%d, %d, %d): %d, %d", at, v, n, trap, e)
	}
}

// copies copies bytes that may be copied.
func copies(t *testing.T, m, from *space.Memory, to, at, n uint64) {
	t.Helper()
	if trap, e := m.Copy(from, to, at, n); trap != api.NoTrap || e != api.OK {
		t.Fatalf("Copy(%d, %d, %d): %d, %d", to, at, n, trap, e)
	}
}

// grows lets a memory grow, if that must be, and holds how many pages it has behind it.
func grows(t *testing.T, m *space.Memory, n uint64, must bool) {
	t.Helper()
	had := m.Pages()
	want, now := 0, had
	if must {
		want, now = had, had+int(n)
	}
	if was, ok := m.Grow(n); was != want || ok != must || m.Pages() != now {
		t.Fatalf("Grow(%d) of %d pages: %d, %t, and %d pages", n, had, was, ok, m.Pages())
	}
}

// TestNew is of P8.1 and P8.2: each number, each number of pages from none to the most, each most, and both widths; the pager isn't asked.
func TestNew(t *testing.T) {
	d := made(t, 16, 1, 0)
	for _, number := range []int{0, 1, 4, math.MaxInt32, math.MaxInt} {
		for _, most := range []int{0, 1, 2, 17, 65535, 65536} {
			for _, pages := range []int{0, 1, most / 2, most - 1, most} {
				if pages < 0 || pages > most {
					continue
				}
				for _, wide := range []bool{false, true} {
					m, e := space.New(d.Pager, number, pages, most, wide)
					if m == nil || e != api.OK || m.Pages() != pages || m.Wide() != wide {
						t.Errorf("New(%d, %d, %d, %t): %v, %d", number, pages, most, wide, m, e)
					}
				}
			}
		}
	}
	d.idle(t)
}

// TestNewNil is of P8.1: a nil pager is told ahead of numbers that may not be.
func TestNewNil(t *testing.T) {
	for _, n := range append(numbers, 0, 1, 65536, 65537) {
		for _, wide := range []bool{false, true} {
			if m, e := space.New(nil, n, n, n, wide); m != nil || e != api.ErrState {
				t.Errorf("New(%d): %v, %d", n, m, e)
			}
			if m, e := space.New(nil, 0, 1, n, wide); m != nil || e != api.ErrState {
				t.Errorf("New of at most %d: %v, %d", n, m, e)
			}
		}
	}
}

// TestNewWrong is of P8.1: numbers that may not be, each one alone, and all at once.
func TestNewWrong(t *testing.T) {
	d := made(t, 16, 1, 0)
	wrong := func(number, pages, most int) {
		t.Helper()
		for _, wide := range []bool{false, true} {
			if m, e := space.New(d.Pager, number, pages, most, wide); m != nil || e != api.ErrArg {
				t.Errorf("New(%d, %d, %d): %v, %d", number, pages, most, m, e)
			}
		}
	}
	for _, n := range numbers {
		wrong(0, n, 65536)
		wrong(0, 0, n)
		wrong(0, n, n)
		if n < 0 {
			wrong(n, 0, 0)
			wrong(n, 1, 2)
			wrong(n, n, n)
		}
	}
	wrong(0, 1, 0)
	wrong(0, 3, 2)
	wrong(0, 65536, 65535)
	wrong(0, 65537, 65536)
	wrong(0, 65537, 65537)
	wrong(0, 0, 65537)
	wrong(0, 1, 65537)
	d.idle(t)
}

// TestNewOfClosed is of P8.1: it isn't asked whether the pager is closed, or broken.
func TestNewOfClosed(t *testing.T) {
	d := made(t, 16, 1, 0)
	d.Close()
	m := d.memory(t, 0, 1, 2)
	grows(t, m, 1, true)
	if b, trap, e := m.Load(0, 0, 1); b != nil || trap != api.NoTrap || e != api.ErrState {
		t.Errorf("Load: %v, %d, %d", b, trap, e)
	}
}

// TestNil is of P8.1 and P8.2: what nil answers, whatever it is asked.
func TestNil(t *testing.T) {
	var m *space.Memory
	some := made(t, 16, 1, 0).memory(t, 0, 1, 1)
	if m.Pages() != 0 || m.Wide() {
		t.Errorf("Pages %d, Wide %t", m.Pages(), m.Wide())
	}
	for _, n := range append(numbers, 0, 1, page, space.MaxBulk+1) {
		at := uint64(n)
		if was, ok := m.Grow(at); was != 0 || ok {
			t.Errorf("Grow(%d): %d, %t", n, was, ok)
		}
		if m.Cap(n) {
			t.Errorf("Cap(%d)", n)
		}
		if b, trap, e := m.Load(at, at, n); b != nil || trap != api.NoTrap || e != api.ErrState {
			t.Errorf("Load(%d): %v, %d, %d", n, b, trap, e)
		}
		if trap, e := m.Store(at, at, make([]byte, n&(1<<21-1))); trap != api.NoTrap || e != api.ErrState {
			t.Errorf("Store(%d): %d, %d", n, trap, e)
		}
		if trap, e := m.Fill(at, 1, at); trap != api.NoTrap || e != api.ErrState {
			t.Errorf("Fill(%d): %d, %d", n, trap, e)
		}
		for _, c := range [][2]*space.Memory{{m, m}, {m, some}, {some, m}} {
			if trap, e := c[0].Copy(c[1], at, at, at); trap != api.NoTrap || e != api.ErrState {
				t.Errorf("Copy(%d): %d, %d", n, trap, e)
			}
		}
	}
	if some.Pages() != 1 {
		t.Errorf("Pages %d", some.Pages())
	}
}

// TestGrow is of P8.1: a memory has n more pages, up to as many as it may have; else it has as many as before.
func TestGrow(t *testing.T) {
	d := made(t, 16, 1, 0)
	for _, most := range []int{0, 1, 2, 100, 65535, 65536} {
		for _, pages := range []int{0, most / 2, most} {
			missing := uint64(most - pages)
			for _, n := range []uint64{missing + 1, missing + 2, 65537, 1 << 31, 1 << 32, 1<<32 + 1, 1<<48 + 1, 1 << 63, math.MaxUint64 - 65535, math.MaxUint64 - 1, math.MaxUint64} {
				m := d.memory(t, 0, pages, most)
				grows(t, m, n, n <= missing)
				grows(t, m, 0, true)
				grows(t, m, missing, m.Pages() == pages)
				grows(t, m, 0, true)
				grows(t, m, 1, false)
			}
		}
	}
	m := d.memory(t, 0, 1, 10)
	for n := range 5 {
		grows(t, m, uint64(n), n < 4)
	}
	grows(t, m, 3, true)
	d.idle(t)
}

// TestCap is of P8.1: what grows is held against the cap that was set last, and against the most.
func TestCap(t *testing.T) {
	d := made(t, 16, 1, 0)
	for _, c := range []struct{ pages, most, capped, missing int }{
		{1, 10, 5, 4}, {1, 10, 1, 0}, {1, 10, 2, 1}, {0, 10, 0, 0}, {0, 10, 3, 3}, {0, 0, 0, 0}, {0, 0, 7, 0}, {0, 0, -1, 0},
		{5, 10, 4, 0}, {5, 10, 0, 0}, {5, 10, 5, 0}, {5, 10, 6, 1}, {5, 10, 10, 5}, {10, 10, 10, 0}, {10, 10, 3, 0}, {10, 10, -1, 0},
		{1, 10, 11, 9}, {1, 10, 65536, 9}, {1, 10, math.MaxInt32, 9}, {1, 10, math.MaxInt, 9},
		{1, 10, -1, 9}, {1, 10, -2, 9}, {1, 10, math.MinInt32, 9}, {1, 10, math.MinInt, 9},
		{1, 65536, 65535, 65534}, {65535, 65536, 65536, 1}, {65536, 65536, 65535, 0}, {65536, 65536, 0, 0}, {65536, 65536, -1, 0},
	} {
		for _, first := range []int{-1, 0, 2, 99} {
			m := d.memory(t, 0, c.pages, c.most)
			if !m.Cap(first) || !m.Cap(c.capped) || m.Pages() != c.pages {
				t.Errorf("Cap(%d): %d pages", c.capped, m.Pages())
			}
			missing := uint64(c.missing)
			grows(t, m, missing+1, false)
			grows(t, m, math.MaxUint64, false)
			grows(t, m, 0, true)
			grows(t, m, missing/2, true)
			grows(t, m, missing-missing/2, true)
			grows(t, m, 0, true)
			grows(t, m, 1, false)
			// As far as it may, again.
			m.Cap(-1)
			grows(t, m, uint64(c.most-m.Pages()+1), false)
			grows(t, m, uint64(c.most-m.Pages()), true)
		}
	}
	d.idle(t)
}

// TestCapLater is of P8.1: a cap holds from then on, also one below what the memory has; what it has stays.
func TestCapLater(t *testing.T) {
	d := made(t, 16, 4, 9)
	m := d.memory(t, 0, 1, 9)
	grows(t, m, 2, true)
	stores(t, m, 3*page-2, 1, 2)
	m.Cap(2)
	grows(t, m, 1, false)
	grows(t, m, 0, true)
	loads(t, m, 3*page-2, 1, 2)
	m.Cap(4)
	grows(t, m, 2, false)
	grows(t, m, 1, true)
	grows(t, m, 1, false)
	loads(t, m, 3*page-2, 1, 2, 0)
	// Another memory of the same pager has a cap of its own.
	grows(t, d.memory(t, 1, 0, 9), 9, true)
}

// TestGrownPages is of P8.1 and P8.2: pages that are had by growing are all 0, and there; what was there stays.
func TestGrownPages(t *testing.T) {
	for _, size := range []int{16, 17, 1000, 1024} {
		d := made(t, size, 3, 20)
		m := d.memory(t, 2, 0, 3)
		outside(t, m, 0, 0, 1)
		for n := range uint64(3) {
			end := n * page
			outside(t, m, end, 0, 1)
			grows(t, m, 1, true)
			loads(t, m, end, make([]byte, page)...)
			stores(t, m, end, byte(n+1))
			stores(t, m, end+page-1, byte(n+101))
			outside(t, m, end+page-1, 0, 2)
		}
		grows(t, m, 1, false)
		loads(t, m, page-1, 101, 2)
		loads(t, m, 2*page-1, 102, 3)
		loads(t, m, 3*page-1, 103)
		loads(t, m, 0, 1)
	}
}
