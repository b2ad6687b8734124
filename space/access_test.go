package space_test

import (
	"bytes"
	"fmt"
	"math"
	"testing"

	"grommet/api"
	"grommet/space"
)

// short is how bytes are told, if they may be many.
func short(b []byte) string {
	if len(b) > 40 {
		return fmt.Sprintf("%v.. (%d)", b[:40], len(b))
	}
	return fmt.Sprint(b)
}

// row is n bytes that are not alike, the first of which is v.
func row(v, n int) []byte {
	b := make([]byte, n)
	for i := range b {
		b[i] = byte(v + i + i>>8)
	}
	return b
}

// outside holds that a Load and a Store are beyond.
func outside(t *testing.T, m *space.Memory, at, offset uint64, n int) {
	t.Helper()
	if b, trap, e := m.Load(at, offset, n); b != nil || trap != api.Bounds || e != api.OK {
		t.Errorf("Load(%d, %d, %d) of %d pages: %s, %d, %d", at, offset, n, m.Pages(), short(b), trap, e)
	}
	if trap, e := m.Store(at, offset, row(1, n)); trap != api.Bounds || e != api.OK {
		t.Errorf("Store(%d, %d) of %d bytes, %d pages: %d, %d", at, offset, n, m.Pages(), trap, e)
	}
}

// inside holds that what is stored is loaded.
func inside(t *testing.T, m *space.Memory, at, offset uint64, n int) {
	t.Helper()
	want := row(1, n)
	if trap, e := m.Store(at, offset, want); trap != api.NoTrap || e != api.OK {
		t.Fatalf("Store(%d, %d) of %d bytes, %d pages: %d, %d", at, offset, n, m.Pages(), trap, e)
	}
	if b, trap, e := m.Load(at, offset, n); !bytes.Equal(b, want) || trap != api.NoTrap || e != api.OK {
		t.Fatalf("Load(%d, %d, %d) of %d pages: %s, %d, %d", at, offset, n, m.Pages(), short(b), trap, e)
	}
}

// TestLoadStore is of P8.2: rows of each length, at each place of a pager's page, are put and had; those beside them stay as they were.
func TestLoadStore(t *testing.T) {
	for _, size := range []int{16, 17, 31, 100, 1024} {
		d := made(t, size, 3, 4096)
		m := d.memory(t, 0, 2, 2)
		all := make([]byte, 2*page)
		for i, at := range []uint64{0, 1, 15, 16, 17, 99, 100, 1000, 1023, 1024, page - 20, page - 1, page, 2*page - 300} {
			for n := range 130 {
				b := row(i+n+1, n)
				copy(all[at:], b)
				stores(t, m, at, b...)
				loads(t, m, at, b...)
			}
			loads(t, m, 0, all...)
			loads(t, m, at, all[at:at+300]...)
		}
	}
}

// TestAddressAndOffset is of P8.2: the sum of both is the place, in memories of either width.
func TestAddressAndOffset(t *testing.T) {
	d := made(t, 64, 3, 20)
	for number, wide := range []bool{false, true} {
		m, _ := space.New(d.Pager, number, 1, 1, wide)
		want := row(7, 100)
		for at := range uint64(101) {
			if trap, e := m.Store(at, 100-at, want); trap != api.NoTrap || e != api.OK {
				t.Fatalf("Store: %d, %d", trap, e)
			}
			loads(t, m, 100, want...)
			if b, trap, e := m.Load(100-at, at, 100); !bytes.Equal(b, want) || trap != api.NoTrap || e != api.OK {
				t.Fatalf("Load: %v, %d, %d", b, trap, e)
			}
			want[at%100]++
		}
	}
}

// sums are addresses and offsets, and the greatest number of bytes that is there of 2 pages; below 0, if none is, not even no bytes.
var sums = []struct {
	at, offset uint64
	most       int
}{
	{0, 0, 2 * page}, {1, 0, 2*page - 1}, {0, 1, 2*page - 1}, {page, 0, page}, {page, page - 1, 1}, {page - 1, page, 1}, {2*page - 2, 0, 2}, {0, 2*page - 2, 2}, {2*page - 1, 0, 1}, {0, 2*page - 1, 1},
	{2 * page, 0, 0}, {0, 2 * page, 0}, {page, page, 0}, {2*page - 1, 1, 0}, {1, 2*page - 1, 0},
	{2*page + 1, 0, -1}, {0, 2*page + 1, -1}, {2 * page, 1, -1}, {1, 2 * page, -1}, {page, page + 1, -1}, {3 * page, 0, -1},
	{1 << 31, 0, -1}, {1 << 32, 0, -1}, {0, 1 << 32, -1}, {1 << 32, 1, -1}, {1<<32 + 5, 0, -1}, {1<<32 - 1, 1, -1}, {1<<32 - 1, 1<<32 - 1, -1}, {1 << 47, 0, -1}, {1 << 63, 0, -1}, {0, 1 << 63, -1},
	{1 << 63, 1 << 63, -1}, {1 << 63, 1<<63 + 5, -1}, {math.MaxUint64, 0, -1}, {0, math.MaxUint64, -1}, {math.MaxUint64, 1, -1}, {1, math.MaxUint64, -1}, {math.MaxUint64, 2, -1}, {2, math.MaxUint64, -1},
	{math.MaxUint64, 2 * page, -1}, {2 * page, math.MaxUint64, -1}, {math.MaxUint64, 2*page + 1, -1}, {math.MaxUint64, math.MaxUint64, -1}, {math.MaxUint64 - 3, 4, -1}, {5, math.MaxUint64 - 4, -1},
}

// TestBeyond is of P8.2: which accesses are beyond, of no bytes, too; the sum counts as a whole number, whatever the width.
func TestBeyond(t *testing.T) {
	for _, size := range []int{64, 1000, 1024} {
		d := made(t, size, 3, 4096)
		for number, wide := range []bool{false, true} {
			m, _ := space.New(d.Pager, number, 2, 3, wide)
			for _, c := range sums {
				for _, n := range []int{0, 1, 2, 8, 20, c.most - 1, c.most, c.most + 1, page, 3 * page, space.MaxBulk} {
					if n < 0 || n > space.MaxBulk {
						continue
					}
					if n <= c.most {
						inside(t, m, c.at, c.offset, n)
					} else {
						outside(t, m, c.at, c.offset, n)
					}
				}
			}
		}
	}
}

// TestBeyondNone is of P8.2: a memory without pages has a place, behind which all is beyond.
func TestBeyondNone(t *testing.T) {
	d := made(t, 16, 1, 0)
	m := d.memory(t, 0, 0, 0)
	inside(t, m, 0, 0, 0)
	outside(t, m, 0, 0, 1)
	outside(t, m, 1, 0, 0)
	outside(t, m, 0, 1, 0)
	outside(t, m, math.MaxUint64, 1, 0)
	fills(t, m, 0, 1, 0)
	copies(t, m, m, 0, 0, 0)
	d.idle(t)
}

// TestGreatest is of P8.2: a memory of as many pages as may be, up to its last byte.
func TestGreatest(t *testing.T) {
	for _, size := range []int{16, 1000} {
		d := made(t, size, 2, 20)
		for number, wide := range []bool{false, true} {
			m, e := space.New(d.Pager, number, 65536, 65536, wide)
			if e != api.OK {
				t.Fatalf("New: %d", e)
			}
			inside(t, m, 1<<32-1, 0, 1)
			inside(t, m, 1<<32-9, 1, 8)
			inside(t, m, 1<<31, 1<<31-8, 8)
			inside(t, m, 1<<31-4, 0, 8)
			inside(t, m, 1<<32, 0, 0)
			inside(t, m, 1<<31, 1<<31, 0)
			outside(t, m, 1<<32, 0, 1)
			outside(t, m, 1<<32-1, 0, 2)
			outside(t, m, 1<<32-1, 1, 1)
			outside(t, m, 1<<32, 1, 0)
			outside(t, m, 1<<32-1, 1<<32-1, 0)
			outside(t, m, 1<<63, 1<<63, 0)
			loads(t, m, 0, make([]byte, 10)...)
			fills(t, m, 1<<32-3, 9, 3)
			copies(t, m, m, 0, 1<<32-4, 4)
			loads(t, m, 0, 5, 9, 9, 9, 0)
		}
	}
}

// TestLong is of P8.2: Load and Store of as many bytes as may be at once; of more, or fewer than none, that is told ahead of what is beyond.
func TestLong(t *testing.T) {
	d := made(t, 1024, 64, 4096)
	m := d.memory(t, 0, 17, 17)
	inside(t, m, 0, 0, space.MaxBulk)
	inside(t, m, page-1, 1, space.MaxBulk)
	outside(t, m, page, 1, space.MaxBulk)
	for _, at := range []uint64{0, 5, page, page + 1, 17 * page, 17*page + 1, 1 << 32, math.MaxUint64} {
		for _, n := range append(numbers, -space.MaxBulk, -2, space.MaxBulk+1, space.MaxBulk+2, 17*page, 17*page+1) {
			want := api.ErrLong
			if n < 0 {
				want = api.ErrArg
			}
			for _, offset := range []uint64{0, at} {
				if b, trap, e := m.Load(at, offset, n); b != nil || trap != api.NoTrap || e != want {
					t.Errorf("Load(%d, %d, %d): %s, %d, %d", at, offset, n, short(b), trap, e)
				}
			}
		}
		for _, n := range []int{space.MaxBulk + 1, 17 * page, 18 * page} {
			if trap, e := m.Store(at, at, make([]byte, n)); trap != api.NoTrap || e != api.ErrLong {
				t.Errorf("Store(%d) of %d bytes: %d, %d", at, n, trap, e)
			}
		}
	}
	loads(t, m, page, row(1, space.MaxBulk)...)
	if space.MaxBulk != 1048576 {
		t.Errorf("MaxBulk %d", space.MaxBulk)
	}
}

// TestTrapChangesNothing is of P8.2: with a trap, or an error that isn't the pager's, no byte is changed, and the pager isn't asked.
func TestTrapChangesNothing(t *testing.T) {
	d := made(t, 16, 64, 20)
	m, x := d.memory(t, 0, 1, 1), d.memory(t, 1, 1, 1)
	outside(t, m, page-1, 0, 2)
	outside(t, m, page-20, 0, 40)
	outside(t, m, page-space.MaxBulk%page, page, 8)
	outside(t, m, 1, 0, page)
	m.Load(0, 0, space.MaxBulk+1)
	m.Load(0, 0, -1)
	m.Store(0, 0, row(1, space.MaxBulk+1))
	m.Fill(page-20, 1, 21)
	m.Fill(0, 1, page+1)
	m.Fill(0, 1, space.MaxBulk+1)
	m.Copy(x, page-20, 0, 21)
	m.Copy(x, 0, page-20, 21)
	m.Copy(x, 0, 0, space.MaxBulk+1)
	m.Copy(nil, 0, 0, 1)
	d.idle(t)
	loads(t, m, 0, make([]byte, page)...)
	loads(t, x, 0, make([]byte, page)...)
}

// TestNotKept is of P8.2: what is handed in is neither changed nor kept, and what is answered is new.
func TestNotKept(t *testing.T) {
	d := made(t, 16, 2, 20)
	m := d.memory(t, 0, 1, 1)
	room := row(1, 60)
	stores(t, m, 5, room[:40]...)
	if trap, e := m.Store(5, 0, room[:40]); trap != api.NoTrap || e != api.OK || !bytes.Equal(room, row(1, 60)) {
		t.Errorf("Store: %d, %d, %v", trap, e, room)
	}
	clear(room)
	loads(t, m, 5, row(1, 40)...)
	b, _, _ := m.Load(5, 0, 40)
	clear(b[:cap(b)])
	loads(t, m, 5, row(1, 40)...)
	if trap, e := m.Store(0, 0, nil); trap != api.NoTrap || e != api.OK {
		t.Errorf("Store of nil: %d, %d", trap, e)
	}
}

// TestWhere is of P8.2: a memory's bytes stand in the pages of its own number, one behind the other, and an access asks for those alone that it has bytes of.
func TestWhere(t *testing.T) {
	for _, size := range []int{16, 17, 1000} {
		for _, c := range []struct{ at, n, pages int }{
			{0, 1, 1}, {0, size, 1}, {0, size + 1, 2}, {size - 1, 1, 1}, {size - 1, 2, 2}, {size, size, 1}, {size, 2 * size, 2}, {size + 1, size, 2}, {size - 1, size + 2, 3}, {5 * size, 7*size + 1, 8}, {0, 0, 0}, {size, 0, 0}, {2 * page, 0, 0}, {2*page - 1, 1, 1},
		} {
			for _, call := range []string{"Load", "Store", "Fill", "Copy"} {
				d, other := made(t, size, 20, 0), made(t, 16, 1, 0)
				m := d.memory(t, 3, 2, 2)
				at, n := uint64(c.at), uint64(c.n)
				switch call {
				case "Load":
					loads(t, m, at, make([]byte, c.n)...)
				case "Store":
					stores(t, m, at, bytes.Repeat([]byte{1}, c.n)...)
				case "Fill":
					fills(t, m, at, 1, n)
				case "Copy":
					copies(t, m, other.memory(t, 0, 2, 2), at, 0, n)
				}
				if d.Resident() != c.pages || d.store.Ops() != 0 {
					t.Errorf("%s of %d bytes at %d: Resident %d, not %d, Ops %d", call, n, at, d.Resident(), c.pages, d.store.Ops())
				}
			}
		}
		d := made(t, size, 20, 1)
		m := d.memory(t, 3, 2, 2)
		for _, at := range []int{0, 1, size - 1, size, size + 1, 40 * size, page - 1, page, page + 1, 2*page - 1} {
			v := byte(at%250 + 1)
			stores(t, m, uint64(at), v)
			if b, e := d.Read(3, at/size, at%size, 1); e != api.OK || b[0] != v {
				t.Errorf("at %d: %v, %d, not %d", at, b, e, v)
			}
		}
	}
}

// TestNoBytes is of P8.2: an access of no bytes asks the pager for nothing, also where it is broken, or closed.
func TestNoBytes(t *testing.T) {
	d := made(t, 16, 1, 0)
	m := d.memory(t, 0, 1, 1)
	d.Close()
	for _, at := range []uint64{0, 1, page} {
		inside(t, m, at, 0, 0)
		fills(t, m, at, 1, 0)
		copies(t, m, m, at, page-at, 0)
	}
	d.idle(t)
}

// TestExamples is of chapter 8's example, and of the fifth one of the whole.
func TestExamples(t *testing.T) {
	m := made(t, 16, 1, 0).memory(t, 0, 1, 1)
	outside(t, m, 65534, 0, 4)
	inside(t, m, 65532, 0, 4)
}
