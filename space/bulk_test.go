package space_test

import (
	"math"
	"testing"

	"grommet/api"
	"grommet/space"
)

// TestFill is of P8.2: so many bytes are alike, those beside them as they were.
func TestFill(t *testing.T) {
	for _, size := range []int{32, 33, 100, 1024} {
		d := made(t, size, 3, 4096)
		m := d.memory(t, 0, 2, 2)
		all := row(3, 2*page)
		stores(t, m, 0, all...)
		for i, at := range []uint64{0, 1, 31, 32, 99, 1000, 1024, page - 20, page, 2*page - 300} {
			for _, n := range []uint64{0, 1, 2, 30, 31, 32, 33, 34, 65, 100, 101, 300} {
				v := byte(i * 31)
				for k := range n {
					all[at+k] = v
				}
				fills(t, m, at, v, n)
			}
			loads(t, m, 0, all...)
		}
		fills(t, m, 0, 255, 2*page)
		fills(t, m, 1, 0, 2*page-2)
		loads(t, m, 1, make([]byte, 2*page-2)...)
		loads(t, m, 0, 255)
		loads(t, m, 2*page-1, 255)
	}
}

// TestFillBeyond is of P8.2: what is beyond is told ahead of too many bytes.
func TestFillBeyond(t *testing.T) {
	d := made(t, 1024, 2, 4096)
	m := d.memory(t, 0, 17, 17)
	const end, bulk = 17 * page, space.MaxBulk
	for _, c := range []struct {
		at, n uint64
		trap  api.Trap
		e     api.Errno
	}{
		{end, 0, api.NoTrap, api.OK}, {end - 1, 1, api.NoTrap, api.OK}, {0, bulk, api.NoTrap, api.OK}, {page, bulk, api.NoTrap, api.OK},
		{0, bulk + 1, api.NoTrap, api.ErrLong}, {0, bulk + 2, api.NoTrap, api.ErrLong}, {0, end, api.NoTrap, api.ErrLong}, {page - 1, bulk + 1, api.NoTrap, api.ErrLong}, {2, end - 2, api.NoTrap, api.ErrLong},
		{end, 1, api.Bounds, api.OK}, {end + 1, 0, api.Bounds, api.OK}, {end - 1, 2, api.Bounds, api.OK}, {page + 1, bulk, api.Bounds, api.OK}, {page, bulk + 1, api.Bounds, api.OK},
		{0, end + 1, api.Bounds, api.OK}, {1, end, api.Bounds, api.OK}, {0, 1 << 32, api.Bounds, api.OK}, {0, 1 << 63, api.Bounds, api.OK}, {0, math.MaxUint64, api.Bounds, api.OK}, {1, math.MaxUint64, api.Bounds, api.OK},
		{2, math.MaxUint64, api.Bounds, api.OK}, {end, math.MaxUint64, api.Bounds, api.OK}, {math.MaxUint64, 0, api.Bounds, api.OK}, {math.MaxUint64, 1, api.Bounds, api.OK}, {math.MaxUint64, 2, api.Bounds, api.OK},
		{math.MaxUint64, math.MaxUint64, api.Bounds, api.OK}, {1 << 63, 1 << 63, api.Bounds, api.OK}, {1 << 32, 0, api.Bounds, api.OK},
	} {
		if trap, e := m.Fill(c.at, 5, c.n); trap != c.trap || e != c.e {
			t.Errorf("Fill(%d, 5, %d): %d, %d, not %d, %d", c.at, c.n, trap, e, c.trap, c.e)
		}
		// The same of a Copy, whichever of both places it is.
		for _, p := range [][2]uint64{{c.at, 0}, {0, c.at}, {c.at, c.at}} {
			if trap, e := m.Copy(m, p[0], p[1], c.n); trap != c.trap || e != c.e {
				t.Errorf("Copy(%d, %d, %d): %d, %d, not %d, %d", p[0], p[1], c.n, trap, e, c.trap, c.e)
			}
		}
	}
}

// TestCopyBeyondEither is of P8.2: each place is held against the pages of its own memory.
func TestCopyBeyondEither(t *testing.T) {
	d := made(t, 1024, 2, 4096)
	small, great := d.memory(t, 0, 1, 1), d.memory(t, 1, 18, 18)
	const bulk = space.MaxBulk
	for _, c := range []struct {
		small, great, n uint64
		trap            api.Trap
		e               api.Errno
	}{
		{0, 17 * page, page, api.NoTrap, api.OK}, {page, 18 * page, 0, api.NoTrap, api.OK}, {page - 1, 18*page - 1, 1, api.NoTrap, api.OK},
		{1, 0, page, api.Bounds, api.OK}, {page + 1, 0, 0, api.Bounds, api.OK}, {0, 18*page + 1, 0, api.Bounds, api.OK}, {0, 18*page - 1, 2, api.Bounds, api.OK}, {page, 0, 1, api.Bounds, api.OK},
		{0, 0, bulk + 1, api.Bounds, api.OK}, {0, 18 * page, bulk + 1, api.Bounds, api.OK}, {0, 0, math.MaxUint64, api.Bounds, api.OK},
	} {
		if trap, e := small.Copy(great, c.small, c.great, c.n); trap != c.trap || e != c.e {
			t.Errorf("Copy(%d, %d, %d) of a great one: %d, %d", c.small, c.great, c.n, trap, e)
		}
		if trap, e := great.Copy(small, c.great, c.small, c.n); trap != c.trap || e != c.e {
			t.Errorf("Copy(%d, %d, %d) of a small one: %d, %d", c.great, c.small, c.n, trap, e)
		}
	}
	if trap, e := great.Copy(great, 0, 0, bulk+1); trap != api.NoTrap || e != api.ErrLong {
		t.Errorf("Copy: %d, %d", trap, e)
	}
}

// TestCopyInItself is of P8.2: bytes are there as they were ahead of it, however both places meet; of the memory, and of another one of the same number.
func TestCopyInItself(t *testing.T) {
	for _, size := range []int{16, 17, 100} {
		for frames := 1; frames <= 3; frames++ {
			d := made(t, size, frames, 4096)
			m, same := d.memory(t, 5, 1, 1), d.memory(t, 5, 1, 1)
			for _, from := range []*space.Memory{m, same} {
				for _, n := range []uint64{0, 1, 2, 15, 16, 17, 40, 200} {
					for _, by := range []uint64{0, 1, 2, 15, 16, 17, 39, 40, 199, 200, 250} {
						for _, p := range [][2]uint64{{30, 30 + by}, {30 + by, 30}} {
							all := row(1, 700)
							stores(t, m, 0, all...)
							copies(t, m, from, p[0], p[1], n)
							copy(all[p[0]:p[0]+n], all[p[1]:p[1]+n])
							loads(t, m, 0, all...)
						}
					}
				}
			}
		}
	}
}

// TestCopyOfAnother is of P8.2: bytes of another memory, of the same pager, and of another one whose pages are of another size; those that were copied stay.
func TestCopyOfAnother(t *testing.T) {
	for _, sizes := range [][2]int{{64, 64}, {64, 1024}, {1024, 64}, {65, 100}, {100, 65}} {
		here, there := made(t, sizes[0], 2, 4096), made(t, sizes[1], 3, 4096)
		m := here.memory(t, 0, 1, 1)
		for _, from := range []*space.Memory{here.memory(t, 1, 2, 2), there.memory(t, 0, 2, 2), there.memory(t, 1, 2, 2)} {
			all, other := make([]byte, page), row(9, 2*page)
			fills(t, m, 0, 0, page)
			stores(t, from, 0, other...)
			for _, at := range []uint64{0, 1, 15, 16, 99, 1000, page, 2*page - 300} {
				for _, n := range []uint64{0, 1, 2, 15, 16, 17, 100, 299} {
					to := (at*7 + n*3) % (page - 300)
					copies(t, m, from, to, at, n)
					copy(all[to:], other[at:at+n])
				}
			}
			loads(t, m, 0, all...)
			loads(t, from, 0, other...)
			copies(t, m, from, 0, page, page)
			loads(t, m, 0, other[page:]...)
		}
	}
}

// TestCopyMost is of P8.2: as many bytes as may be at once, also over themselves.
func TestCopyMost(t *testing.T) {
	d := made(t, 1024, 2, 4096)
	m := d.memory(t, 0, 17, 17)
	all := row(1, space.MaxBulk)
	stores(t, m, 0, all...)
	copies(t, m, m, 1000, 0, space.MaxBulk)
	loads(t, m, 1000, all...)
	loads(t, m, 0, all[:1000]...)
	copies(t, m, m, 0, 1000, space.MaxBulk)
	loads(t, m, 0, all...)
	fills(t, m, page, 3, space.MaxBulk)
	loads(t, m, page-1, all[page-1], 3)
	loads(t, m, 17*page-1, 3)
}
