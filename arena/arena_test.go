package arena_test

import (
	"bytes"
	"encoding/binary"
	"math"
	"testing"

	"grommet/api"
	"grommet/arena"
)

const most = 1 << 22

// made is an arena that may be.
func made(t *testing.T, size int) *arena.Arena {
	t.Helper()
	a, e := arena.New(size)
	if a == nil || e != api.OK {
		t.Fatalf("New(%d): %v, %d", size, a, e)
	}
	return a
}

// take takes a room that must begin at a place.
func take(t *testing.T, a *arena.Arena, n, want int) {
	t.Helper()
	if at, e := a.Take(n); at != want || e != api.OK {
		t.Fatalf("Take(%d): %d, %d, not %d", n, at, e, want)
	}
}

// give gives a room back that is taken.
func give(t *testing.T, a *arena.Arena, at int) {
	t.Helper()
	if e := a.Give(at); e != api.OK {
		t.Fatalf("Give(%d): %d", at, e)
	}
}

// put copies bytes to a place where they lie in the arena.
func put(t *testing.T, a *arena.Arena, at int, b []byte) {
	t.Helper()
	if e := a.Copy(at, b); e != api.OK {
		t.Fatalf("Copy of %d bytes to %d: %d", len(b), at, e)
	}
}

// holds holds bytes of the arena against what they must be.
func holds(t *testing.T, a *arena.Arena, at int, want []byte) {
	t.Helper()
	if b, e := a.Bytes(at, len(want)); !bytes.Equal(b, want) || e != api.OK {
		t.Fatalf("Bytes(%d, %d): %v, %d", at, len(want), b, e)
	}
}

// tells holds how much is taken, and cut off, against what it must be.
func tells(t *testing.T, a *arena.Arena, live, height int) {
	t.Helper()
	if a.Live() != live || a.Height() != height {
		t.Fatalf("Live %d, Height %d, not %d, %d", a.Live(), a.Height(), live, height)
	}
}

// ones is n bytes whose bits are all 1.
func ones(n int) []byte {
	return bytes.Repeat([]byte{255}, n)
}

// TestNew is of P4.1: how many bytes there may be; all are 0.
func TestNew(t *testing.T) {
	for _, size := range []int{0, 1, 15, 16, 17, 100, most - 1, most} {
		a := made(t, size)
		if a.Size() != size {
			t.Errorf("of %d bytes: Size %d", size, a.Size())
		}
		tells(t, a, 0, 0)
		holds(t, a, 0, make([]byte, size))
	}
	for _, size := range []int{math.MinInt, -most, -1, most + 1, 2 * most, math.MaxInt} {
		if a, e := arena.New(size); a != nil || e != api.ErrArg {
			t.Errorf("New(%d): %v, %d", size, a, e)
		}
	}
}

// TestClass is of P4.1: each number of bytes up to the greatest one, and numbers beyond both ends.
func TestClass(t *testing.T) {
	n := -3
	for _, class := range []int{16, 32, 64, 128, 256, 512, 1024, 2048, 4096, 8192, 16384, 32768, 65536, 131072, 262144, 524288, 1048576, 2097152, 4194304} {
		for ; n <= class; n++ {
			if got := arena.Class(n); got != class {
				t.Fatalf("Class(%d): %d, not %d", n, got, class)
			}
		}
	}
	if n != most+1 {
		t.Fatalf("held up to %d", n)
	}
	for _, n := range []int{most + 1, most + 2, 2 * most, math.MaxInt32, math.MaxInt} {
		if got := arena.Class(n); got != 0 {
			t.Errorf("Class(%d): %d", n, got)
		}
	}
	for _, n := range []int{math.MinInt, math.MinInt32, -most} {
		if got := arena.Class(n); got != 16 {
			t.Errorf("Class(%d): %d", n, got)
		}
	}
}

// TestTakeInTurn is of P4.1: rooms are cut off one behind the other, each of its class.
func TestTakeInTurn(t *testing.T) {
	a := made(t, 1000)
	at := 0
	for _, c := range [][2]int{{0, 16}, {1, 16}, {15, 16}, {16, 16}, {17, 32}, {32, 32}, {33, 64}, {20, 32}, {5, 16}, {200, 256}} {
		n, class := c[0], c[1]
		take(t, a, n, at)
		if size, ok := a.Room(at); size != class || !ok {
			t.Errorf("Room(%d) for %d: %d, %t", at, n, size, ok)
		}
		at += class
		tells(t, a, at, at)
	}
}

// TestTakeWrong is of P4.1: numbers that no room is for are told as that, also of an arena that has no room; nothing is changed.
func TestTakeWrong(t *testing.T) {
	for _, size := range []int{0, 64, most} {
		a := made(t, size)
		for _, n := range []int{math.MinInt, -16, -1, most + 1, 2 * most, math.MaxInt} {
			if at, e := a.Take(n); at != 0 || e != api.ErrArg {
				t.Errorf("of %d bytes: Take(%d): %d, %d", size, n, at, e)
			}
		}
		tells(t, a, 0, 0)
	}
}

// TestTakeAll is of P4.1: an arena has room up to its last byte, and none beyond; what has no room changes nothing.
func TestTakeAll(t *testing.T) {
	for _, c := range []struct{ size, n, rooms int }{
		{0, 0, 0}, {15, 0, 0}, {16, 16, 1}, {16, 17, 0}, {31, 16, 1}, {32, 16, 2}, {47, 17, 1}, {63, 17, 1}, {64, 17, 2}, {100, 33, 1}, {most, most, 1}, {most, most/2 + 1, 1}, {most, most / 2, 2}, {most - 1, most/2 + 1, 0}, {most - 1, most / 2, 1},
	} {
		a := made(t, c.size)
		class := arena.Class(c.n)
		for i := range c.rooms {
			take(t, a, c.n, i*class)
		}
		for range 2 {
			if at, e := a.Take(c.n); at != 0 || e != api.ErrFull {
				t.Errorf("of %d bytes: Take(%d): %d, %d", c.size, c.n, at, e)
			}
			tells(t, a, c.rooms*class, c.rooms*class)
		}
		if c.size-c.rooms*class >= 16 {
			take(t, a, 16, c.rooms*class)
		}
	}
}

// TestFullThenGiven is of P4.1: what is given back is taken again, where nothing more can be cut off.
func TestFullThenGiven(t *testing.T) {
	for _, size := range []int{16, 1024, most} {
		a := made(t, size)
		for range 3 {
			take(t, a, size, 0)
			if at, e := a.Take(0); at != 0 || e != api.ErrFull {
				t.Errorf("Take: %d, %d", at, e)
			}
			tells(t, a, size, size)
			give(t, a, 0)
			tells(t, a, 0, size)
		}
	}
}

// TestLastGivenFirst is of P4.1: of one class, the room that was given back last is taken first, then the one ahead of it; then one is cut off.
func TestLastGivenFirst(t *testing.T) {
	for _, order := range [][]int{{0}, {48}, {0, 16}, {16, 0}, {32, 0, 48, 16}, {0, 16, 32, 48}, {48, 32, 16, 0}} {
		a := made(t, 1000)
		for i := range 4 {
			take(t, a, 9, 16*i)
		}
		for i, at := range order {
			give(t, a, at)
			tells(t, a, 64-16*(i+1), 64)
		}
		for i := len(order) - 1; i >= 0; i-- {
			take(t, a, i, order[i])
		}
		tells(t, a, 64, 64)
		take(t, a, 9, 64)
		tells(t, a, 80, 80)
	}
}

// TestGivenBetween is of P4.1: rooms are given back and taken again in turn.
func TestGivenBetween(t *testing.T) {
	a := made(t, 1000)
	for i := range 4 {
		take(t, a, 16, 16*i)
	}
	give(t, a, 16)
	give(t, a, 48)
	take(t, a, 16, 48)
	give(t, a, 0)
	give(t, a, 48)
	for _, at := range []int{48, 0, 16, 64} {
		take(t, a, 16, at)
	}
}

// TestClassesApart is of P4.1: rooms of one class that were given back aren't taken for another one, neither cut up nor put together, also if there is no other room.
func TestClassesApart(t *testing.T) {
	a := made(t, 128)
	take(t, a, 64, 0)
	take(t, a, 16, 64)
	take(t, a, 16, 80)
	give(t, a, 0)
	give(t, a, 64)
	give(t, a, 80)
	tells(t, a, 0, 96)
	take(t, a, 32, 96)
	if at, e := a.Take(17); at != 0 || e != api.ErrFull {
		t.Errorf("Take: %d, %d", at, e)
	}
	take(t, a, 33, 0)
	take(t, a, 16, 80)
	take(t, a, 1, 64)
	for _, n := range []int{1, 17, 33, 65} {
		if at, e := a.Take(n); at != 0 || e != api.ErrFull {
			t.Errorf("Take(%d): %d, %d", n, at, e)
		}
	}
	tells(t, a, 128, 128)
}

// TestTakenIsZero is of P4.1: a room's bytes are 0 when it is taken, whatever was put there ahead of it, and those around it stay.
func TestTakenIsZero(t *testing.T) {
	a := made(t, 100)
	put(t, a, 0, ones(100))
	take(t, a, 20, 0)
	holds(t, a, 0, append(make([]byte, 32), ones(68)...))
	put(t, a, 0, ones(32))
	take(t, a, 1, 32)
	holds(t, a, 0, append(append(ones(32), make([]byte, 16)...), ones(52)...))
	give(t, a, 0)
	holds(t, a, 0, ones(32))
	put(t, a, 30, []byte{1, 2, 3, 4})
	take(t, a, 17, 0)
	holds(t, a, 0, append(append(make([]byte, 32), 3, 4), make([]byte, 14)...))
	if _, e := a.Take(64); e != api.ErrFull {
		t.Errorf("Take: %d", e)
	}
	holds(t, a, 48, ones(52))
}

// TestGiveWrong is of P4.1: places where no room that is taken begins; nothing is changed.
func TestGiveWrong(t *testing.T) {
	a := made(t, 1000)
	take(t, a, 16, 0)
	take(t, a, 32, 16)
	take(t, a, 16, 48)
	give(t, a, 0)
	for _, at := range []int{math.MinInt, -16, -1, 0, 1, 15, 17, 32, 47, 49, 63, 64, 80, 999, 1000, 1001, math.MaxInt} {
		if e := a.Give(at); e != api.ErrRange {
			t.Errorf("Give(%d): %d", at, e)
		}
		if n, ok := a.Room(at); n != 0 || ok {
			t.Errorf("Room(%d): %d, %t", at, n, ok)
		}
	}
	tells(t, a, 48, 64)
	if n, ok := a.Room(16); n != 32 || !ok {
		t.Errorf("Room(16): %d, %t", n, ok)
	}
	take(t, a, 16, 0)
	take(t, a, 16, 64)
}

// TestRoom is of P4.1: a room is told while it is taken, as great as its class.
func TestRoom(t *testing.T) {
	a := made(t, 1000)
	take(t, a, 17, 0)
	take(t, a, 0, 32)
	for range 2 {
		if n, ok := a.Room(0); n != 32 || !ok {
			t.Errorf("Room(0): %d, %t", n, ok)
		}
		give(t, a, 0)
		if n, ok := a.Room(0); n != 0 || ok {
			t.Errorf("Room(0) of one that was given back: %d, %t", n, ok)
		}
		take(t, a, 32, 0)
	}
	if n, ok := a.Room(32); n != 16 || !ok {
		t.Errorf("Room(32): %d, %t", n, ok)
	}
}

// low is v's low bytes, the lowest one first.
func low(v uint64, width int) []byte {
	return binary.LittleEndian.AppendUint64(nil, v)[:width]
}

// number is the number that bytes are, the lowest one first.
func number(b []byte) uint64 {
	return binary.LittleEndian.Uint64(append(bytes.Clone(b), make([]byte, 8)...))
}

// TestNumbers is of P4.2: each width, at each place and around; what is put is got, and nothing beside it is changed.
func TestNumbers(t *testing.T) {
	const size = 21
	for _, width := range []int{1, 2, 4, 8} {
		for at := -9; at <= size+9; at++ {
			for _, v := range []uint64{0, 1, 0x0102030405060708, 0xf1f2f3f4f5f6f7f8, math.MaxUint64, 1 << 63} {
				a := made(t, size)
				want := bytes.Repeat([]byte{0x5a}, size)
				put(t, a, 0, want)
				pe := a.Put(at, width, v)
				n, ge := a.Get(at, width)
				if at < 0 || at+width > size {
					if pe != api.ErrRange || n != 0 || ge != api.ErrRange {
						t.Errorf("at %d, of %d bytes: Put %d, Get %d, %d", at, width, pe, n, ge)
					}
				} else {
					copy(want[at:], low(v, width))
					if pe != api.OK || n != number(low(v, width)) || ge != api.OK {
						t.Errorf("at %d, of %d bytes: Put %d, Get %x, %d", at, width, pe, n, ge)
					}
				}
				holds(t, a, 0, want)
			}
		}
	}
}

// TestNumberOfBytes is of P4.2: the lowest byte stands first, written out.
func TestNumberOfBytes(t *testing.T) {
	a := made(t, 16)
	put(t, a, 3, []byte{1, 2, 3, 4, 5, 6, 7, 0xf8})
	for width, want := range map[int]uint64{1: 0x01, 2: 0x0201, 4: 0x04030201, 8: 0xf807060504030201} {
		if n, e := a.Get(3, width); n != want || e != api.OK {
			t.Errorf("Get of %d bytes: %x, %d", width, n, e)
		}
	}
	if e := a.Put(4, 2, 0xaabbcc); e != api.OK {
		t.Errorf("Put: %d", e)
	}
	holds(t, a, 3, []byte{1, 0xcc, 0xbb, 4, 5, 6, 7, 0xf8})
}

// TestWrongWidth is of P4.2: other widths, which are told ahead of a place that isn't there; nothing is changed.
func TestWrongWidth(t *testing.T) {
	a := made(t, 64)
	put(t, a, 0, ones(64))
	for _, width := range []int{math.MinInt, -8, -1, 0, 3, 5, 6, 7, 9, 10, 16, 32, 64, 65, math.MaxInt} {
		for _, at := range []int{math.MinInt, -1, 0, 1, 63, 64, math.MaxInt} {
			if n, e := a.Get(at, width); n != 0 || e != api.ErrArg {
				t.Errorf("Get(%d, %d): %d, %d", at, width, n, e)
			}
			if e := a.Put(at, width, 0); e != api.ErrArg {
				t.Errorf("Put(%d, %d): %d", at, width, e)
			}
		}
	}
	holds(t, a, 0, ones(64))
}

// TestGreatPlaces is of P4.2: places and lengths whose sum is beyond all numbers.
func TestGreatPlaces(t *testing.T) {
	a := made(t, 20)
	for _, at := range []int{math.MinInt, math.MinInt + 1, math.MaxInt - 8, math.MaxInt - 7, math.MaxInt - 1, math.MaxInt} {
		for _, width := range []int{1, 2, 4, 8} {
			if n, e := a.Get(at, width); n != 0 || e != api.ErrRange {
				t.Errorf("Get(%d, %d): %d, %d", at, width, n, e)
			}
			if e := a.Put(at, width, 1); e != api.ErrRange {
				t.Errorf("Put(%d, %d): %d", at, width, e)
			}
		}
		if e := a.Copy(at, ones(8)); e != api.ErrRange {
			t.Errorf("Copy(%d): %d", at, e)
		}
		for _, n := range []int{math.MinInt, -1, 0, 1, math.MaxInt} {
			if b, e := a.Bytes(at, n); b != nil || e != api.ErrRange {
				t.Errorf("Bytes(%d, %d): %v, %d", at, n, b, e)
			}
			if b, e := a.Bytes(n, at); b != nil || e != api.ErrRange {
				t.Errorf("Bytes(%d, %d): %v, %d", n, at, b, e)
			}
		}
	}
	holds(t, a, 0, make([]byte, 20))
}

// TestPlaces is of P4.2: all places and lengths around those that are there, whether a room is taken there or not.
func TestPlaces(t *testing.T) {
	for _, size := range []int{0, 1, 5} {
		for at := -2; at <= size+2; at++ {
			for n := -2; n <= size+2; n++ {
				a := made(t, size)
				want := []byte{1, 2, 3, 4, 5}[:size]
				put(t, a, 0, want)
				b, e := a.Bytes(at, n)
				there := at >= 0 && n >= 0 && at+n <= size
				if there && (!bytes.Equal(b, want[at:at+n]) || e != api.OK) || !there && (b != nil || e != api.ErrRange) {
					t.Errorf("of %d: Bytes(%d, %d): %v, %d", size, at, n, b, e)
				}
				if n < 0 {
					continue
				}
				if e := a.Copy(at, ones(n)); (e == api.OK) != there || !there && e != api.ErrRange {
					t.Errorf("of %d: Copy of %d bytes to %d: %d", size, n, at, e)
				}
				if there {
					want = bytes.Clone(want)
					copy(want[at:], ones(n))
				}
				holds(t, a, 0, want)
			}
		}
	}
}

// TestCopies is of P4.2: neither what was handed in nor what was answered is the arena's own.
func TestCopies(t *testing.T) {
	a := made(t, 8)
	room := []byte{1, 2, 3, 4, 5, 6}
	put(t, a, 2, room[:4])
	if !bytes.Equal(room, []byte{1, 2, 3, 4, 5, 6}) {
		t.Errorf("what was handed in is now %v", room)
	}
	clear(room)
	for range 2 {
		b, e := a.Bytes(1, 6)
		if !bytes.Equal(b, []byte{0, 1, 2, 3, 4, 0}) || e != api.OK {
			t.Errorf("Bytes: %v, %d", b, e)
		}
		clear(b[:cap(b)])
	}
	holds(t, a, 0, []byte{0, 0, 1, 2, 3, 4, 0, 0})
}

// TestEmpty is of P4.1 and P4.2: an arena of 0 bytes.
func TestEmpty(t *testing.T) {
	a := made(t, 0)
	if at, e := a.Take(0); at != 0 || e != api.ErrFull {
		t.Errorf("Take: %d, %d", at, e)
	}
	if e := a.Give(0); e != api.ErrRange {
		t.Errorf("Give: %d", e)
	}
	if n, e := a.Get(0, 1); n != 0 || e != api.ErrRange {
		t.Errorf("Get: %d, %d", n, e)
	}
	if e := a.Put(0, 1, 1); e != api.ErrRange {
		t.Errorf("Put: %d", e)
	}
	if e := a.Copy(0, nil); e != api.OK {
		t.Errorf("Copy: %d", e)
	}
	tells(t, a, 0, 0)
}

// TestLastByte is of P4.2: the greatest arena's last byte, and the one beyond.
func TestLastByte(t *testing.T) {
	a := made(t, most)
	for _, width := range []int{1, 2, 4, 8} {
		if e := a.Put(most-width, width, math.MaxUint64); e != api.OK {
			t.Errorf("Put of %d bytes: %d", width, e)
		}
		if n, e := a.Get(most-width, width); n != math.MaxUint64>>(64-8*width) || e != api.OK {
			t.Errorf("Get of %d bytes: %x, %d", width, n, e)
		}
		if e := a.Put(most-width+1, width, 0); e != api.ErrRange {
			t.Errorf("Put of %d bytes: %d", width, e)
		}
		if n, e := a.Get(most-width+1, width); n != 0 || e != api.ErrRange {
			t.Errorf("Get of %d bytes: %x, %d", width, n, e)
		}
	}
	holds(t, a, most-9, append([]byte{0}, ones(8)...))
}

// TestNilArena is of P4.1 and P4.2: that there is none is told first of all.
func TestNilArena(t *testing.T) {
	var a *arena.Arena
	for _, n := range []int{math.MinInt, -1, 0, 1, 3, 8, most + 1, math.MaxInt} {
		if at, e := a.Take(n); at != 0 || e != api.ErrState {
			t.Errorf("Take(%d): %d, %d", n, at, e)
		}
		if e := a.Give(n); e != api.ErrState {
			t.Errorf("Give(%d): %d", n, e)
		}
		if size, ok := a.Room(n); size != 0 || ok {
			t.Errorf("Room(%d): %d, %t", n, size, ok)
		}
		if v, e := a.Get(n, n); v != 0 || e != api.ErrState {
			t.Errorf("Get(%d, %d): %d, %d", n, n, v, e)
		}
		if e := a.Put(n, n, 1); e != api.ErrState {
			t.Errorf("Put(%d, %d): %d", n, n, e)
		}
		if b, e := a.Bytes(n, n); b != nil || e != api.ErrState {
			t.Errorf("Bytes(%d, %d): %v, %d", n, n, b, e)
		}
		if e := a.Copy(n, nil); e != api.ErrState {
			t.Errorf("Copy(%d): %d", n, e)
		}
	}
	tells(t, a, 0, 0)
	if a.Size() != 0 {
		t.Errorf("Size %d", a.Size())
	}
}

// TestArenasApart is of P4.1: what is done with an arena changes no other one.
func TestArenasApart(t *testing.T) {
	a, other := made(t, 64), made(t, 64)
	take(t, a, 16, 0)
	take(t, other, 32, 0)
	give(t, a, 0)
	put(t, a, 0, ones(64))
	take(t, other, 16, 32)
	holds(t, other, 0, make([]byte, 64))
	tells(t, a, 0, 16)
	tells(t, other, 48, 48)
}

// model is what chapter 4 tells of an arena, written out over lists of all its rooms.
type model struct {
	bytes        []byte
	begins, size []int // the rooms that were cut off, whether they are taken or not
	taken        []bool
	given        []int // rooms by their place in begins, as they were given back, whatever their class
	live, height int
}

// take is what Take answers.
func (m *model) take(n int) (int, api.Errno) {
	if n < 0 || n > most {
		return 0, api.ErrArg
	}
	class := arena.Class(n)
	for i := len(m.given) - 1; i >= 0; i-- {
		if room := m.given[i]; m.size[room] == class {
			m.given = append(m.given[:i:i], m.given[i+1:]...)
			return m.use(room), api.OK
		}
	}
	if m.height+class > len(m.bytes) {
		return 0, api.ErrFull
	}
	m.begins, m.size, m.taken = append(m.begins, m.height), append(m.size, class), append(m.taken, false)
	m.height += class
	return m.use(len(m.begins) - 1), api.OK
}

// use is where a room begins that is taken now.
func (m *model) use(room int) int {
	m.taken[room] = true
	m.live += m.size[room]
	clear(m.bytes[m.begins[room]:][:m.size[room]])
	return m.begins[room]
}

// room is the room that is taken and begins at a place; -1, if there is none.
func (m *model) room(at int) int {
	for i, begins := range m.begins {
		if begins == at && m.taken[i] {
			return i
		}
	}
	return -1
}

// give is what Give answers.
func (m *model) give(at int) api.Errno {
	room := m.room(at)
	if room < 0 {
		return api.ErrRange
	}
	m.taken[room] = false
	m.given = append(m.given, room)
	m.live -= m.size[room]
	return api.OK
}

// step does the same with an arena and its model: what is told by the numbers that next answers.
func step(t *testing.T, a *arena.Arena, m *model, next func(int) int) {
	t.Helper()
	at := next(len(m.bytes)+3) - 1
	switch next(8) {
	case 0, 1, 2:
		n := next(1<<next(8)) - 1
		want, we := m.take(n)
		if got, e := a.Take(n); got != want || e != we {
			t.Fatalf("Take(%d): %d, %d, not %d, %d", n, got, e, want, we)
		}
	case 3, 4, 5:
		if len(m.begins) > 0 && next(5) > 0 {
			at = m.begins[next(len(m.begins))]
		}
		want := m.give(at)
		if e := a.Give(at); e != want {
			t.Fatalf("Give(%d): %d, not %d", at, e, want)
		}
	case 6:
		width, v := 1<<next(4), uint64(next(1<<24))<<40|uint64(next(1<<24))<<16|uint64(next(1<<16))
		e := a.Put(at, width, v)
		if there := at >= 0 && at+width <= len(m.bytes); there != (e == api.OK) {
			t.Fatalf("Put(%d, %d): %d", at, width, e)
		} else if there {
			copy(m.bytes[at:], low(v, width))
		}
	case 7:
		b := bytes.Repeat([]byte{byte(next(256))}, next(40))
		e := a.Copy(at, b)
		if there := at >= 0 && at+len(b) <= len(m.bytes); there != (e == api.OK) {
			t.Fatalf("Copy of %d bytes to %d: %d", len(b), at, e)
		} else if there {
			copy(m.bytes[at:], b)
		}
	}
}

// apart holds that rooms that are taken don't meet, lie within the height, and are live.
func apart(t *testing.T, a *arena.Arena) {
	t.Helper()
	end, live := 0, 0
	for at := range a.Size() {
		n, ok := a.Room(at)
		if !ok {
			continue
		}
		if at < end || at+n > a.Height() {
			t.Fatalf("a room of %d bytes at %d, behind one up to %d, Height %d", n, at, end, a.Height())
		}
		end, live = at+n, live+n
	}
	if a.Live() != live || a.Live() > a.Height() || a.Height() > a.Size() {
		t.Fatalf("rooms of %d bytes, Live %d, Height %d, Size %d", live, a.Live(), a.Height(), a.Size())
	}
}

// TestAsModel is of P4.1 to P4.3: whatever is done with an arena, in whatever order, it answers what the chapter tells, and its rooms are apart.
func TestAsModel(t *testing.T) {
	seed := uint32(1)
	next := func(n int) int {
		seed = seed*1664525 + 1013904223
		return int(uint64(seed) * uint64(n) >> 32)
	}
	for _, size := range []int{0, 15, 16, 40, 100, 333, 1024} {
		a := made(t, size)
		m := &model{bytes: make([]byte, size)}
		for range 4000 {
			step(t, a, m, next)
			tells(t, a, m.live, m.height)
			holds(t, a, 0, m.bytes)
			apart(t, a)
		}
	}
}
