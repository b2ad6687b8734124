package space_test

import (
	"bytes"
	"math"
	"testing"

	"grommet/api"
	"grommet/space"
)

// model is what chapter 8 tells of a memory, over a plain row of bytes.
type model struct {
	*space.Memory
	bytes        []byte
	most, capped int
}

// chance is numbers that are as good as any, the same ones each time.
type chance uint32

// below is a number below n.
func (c *chance) below(n int) int {
	*c = *c*1664525 + 1013904223
	return int(uint64(*c) * uint64(n) >> 32)
}

// place is one of a memory: near a page's end, the beginning, or the memory's end; or, now and then, far beyond.
func (c *chance) place(m *model) uint64 {
	switch c.below(20) {
	case 0:
		return math.MaxUint64 - uint64(c.below(50))
	case 1:
		return 1<<32 + uint64(c.below(50))
	case 2, 3, 4:
		return uint64(max(0, len(m.bytes)-50+c.below(60)))
	case 5, 6, 7:
		return uint64(max(0, page*c.below(4)-30+c.below(60)))
	}
	return uint64(c.below(200))
}

// there tells whether n bytes are there.
func (m *model) there(at, offset, n uint64) bool {
	end := uint64(len(m.bytes))
	return at <= end && offset <= end && n <= end && at+offset+n <= end
}

// trap is Bounds of what isn't there.
func trap(there bool) api.Trap {
	if there {
		return api.NoTrap
	}
	return api.Bounds
}

// access does one of an access's calls, which meets no fault, with a memory and its model, and holds it against that.
func access(t *testing.T, c *chance, m, from *model) {
	t.Helper()
	at, offset, n := c.place(m), uint64(0), c.below(70)
	if c.below(3) == 0 {
		offset = c.place(m)
	}
	switch c.below(4) {
	case 0:
		ok := m.there(at, offset, uint64(n))
		b, got, e := m.Load(at, offset, n)
		if got != trap(ok) || e != api.OK || ok && !bytes.Equal(b, m.bytes[at+offset:][:n]) || !ok && b != nil {
			t.Fatalf("Load(%d, %d, %d): %v, %d, %d", at, offset, n, b, got, e)
		}
	case 1:
		b := row(c.below(3), n)
		ok := m.there(at, offset, uint64(n))
		if got, e := m.Store(at, offset, b); got != trap(ok) || e != api.OK {
			t.Fatalf("Store(%d, %d) of %d bytes: %d, %d", at, offset, n, got, e)
		}
		if ok {
			copy(m.bytes[at+offset:], b)
		}
	case 2:
		v, ok := byte(c.below(2)), m.there(at, 0, uint64(n))
		if got, e := m.Fill(at, v, uint64(n)); got != trap(ok) || e != api.OK {
			t.Fatalf("Fill(%d, %d, %d): %d, %d", at, v, n, got, e)
		}
		for i := 0; ok && i < n; i++ {
			m.bytes[at+uint64(i)] = v
		}
	default:
		of := c.place(from)
		ok := m.there(at, 0, uint64(n)) && from.there(of, 0, uint64(n))
		if got, e := m.Copy(from.Memory, at, of, uint64(n)); got != trap(ok) || e != api.OK {
			t.Fatalf("Copy(%d, %d, %d): %d, %d", at, of, n, got, e)
		}
		if ok {
			copy(m.bytes[at:], bytes.Clone(from.bytes[of:of+uint64(n)]))
		}
	}
}

// grow lets a memory and its model grow, or sets a cap, and holds it against that.
func grow(t *testing.T, c *chance, m *model) {
	t.Helper()
	if c.below(3) == 0 {
		capped := c.below(6) - 1
		m.Cap(capped)
		if m.capped = capped; capped < 0 {
			m.capped = m.most
		}
		return
	}
	n, had := c.below(3), len(m.bytes)/page
	ok := n == 0 || had+n <= min(m.capped, m.most)
	grows(t, m.Memory, uint64(n), ok)
	if ok {
		m.bytes = append(m.bytes, make([]byte, n*page)...)
	}
}

// TestAsModel is of P8.1, P8.2 and P8.3: whatever is done with memories of two pagers, in whatever order, each one is as a row of bytes of its own.
func TestAsModel(t *testing.T) {
	c := chance(5)
	for _, size := range []int{16, 17, 50, 1000, 1024} {
		for frames := 1; frames <= 4; frames++ {
			here, there := made(t, size, frames, 2000), made(t, 64, 2, 2000)
			var all []*model
			for number := range 8 {
				d := here
				if number >= 6 {
					d, number = there, number-6
				}
				most := c.below(4)
				pages := c.below(most + 1)
				all = append(all, &model{d.memory(t, number, pages, most), make([]byte, pages*page), most, most})
			}
			for range 3000 {
				m := all[c.below(len(all))]
				if c.below(10) == 0 {
					grow(t, &c, m)
				} else {
					access(t, &c, m, all[c.below(len(all))])
				}
			}
			for _, m := range all {
				loads(t, m.Memory, 0, m.bytes...)
			}
			if here.Fault() != api.OK || there.Fault() != api.OK {
				t.Fatalf("Fault %d, %d", here.Fault(), there.Fault())
			}
		}
	}
}

// TestNotMeeting is of P8.3: memories of different numbers, of any, don't meet, nor do those of another pager; those of one number are the same bytes.
func TestNotMeeting(t *testing.T) {
	d, other := made(t, 1024, 2, 400), made(t, 1024, 2, 400)
	numbers := []int{0, 1, 2, 255, 256, 65535, 65536, math.MaxInt32, math.MaxInt}
	for i, n := range numbers {
		fills(t, d.memory(t, n, 1, 1), 0, byte(i+1), 10000)
		fills(t, other.memory(t, n, 1, 1), 0, byte(i+101), 10000)
	}
	for i, n := range numbers {
		loads(t, d.memory(t, n, 2, 2), 0, append(bytes.Repeat([]byte{byte(i + 1)}, 10000), 0)...)
		loads(t, other.memory(t, n, 2, 2), 0, append(bytes.Repeat([]byte{byte(i + 101)}, 10000), 0)...)
		loads(t, d.memory(t, n, 2, 2), page-1, 0, 0)
	}
}
