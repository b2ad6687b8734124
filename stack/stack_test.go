package stack_test

import (
	"bytes"
	"math"
	"slices"
	"testing"

	"grommet/api"
	"grommet/arena"
	"grommet/stack"
)

const most = 65536

// outside is numbers below 0, and very great ones.
var outside = []int{math.MinInt, math.MinInt + 1, math.MinInt / 8, math.MinInt32, -65536, -2, -1, math.MaxInt32, math.MaxInt / 8, math.MaxInt/8 + 1, math.MaxInt - 1, math.MaxInt}

// fresh is an arena of so many bytes, each of which was 255 ahead of a room being taken.
func fresh(t *testing.T, size int) *arena.Arena {
	t.Helper()
	a, e := arena.New(size)
	if e != api.OK {
		t.Fatalf("arena.New(%d): %d", size, e)
	}
	a.Copy(0, bytes.Repeat([]byte{255}, size))
	return a
}

// made is a stack of so many cells, with words in it.
func made(t *testing.T, a *arena.Arena, cells int, l ...uint64) *stack.Stack {
	t.Helper()
	s, e := stack.New(a, cells)
	if s == nil || e != api.OK {
		t.Fatalf("New of %d cells: %v, %d", cells, s, e)
	}
	if e := s.Push(l...); e != api.OK {
		t.Fatalf("Push of %d words: %d", len(l), e)
	}
	return s
}

// alone is a stack of so many cells in an arena that has room for it alone.
func alone(t *testing.T, cells int, l ...uint64) *stack.Stack {
	t.Helper()
	return made(t, fresh(t, arena.Class(8*cells)), cells, l...)
}

// holds holds a stack's words, and how many more there may be, against what they must be.
func holds(t *testing.T, s *stack.Stack, room int, want ...uint64) {
	t.Helper()
	if s.Height() != len(want) || s.Room() != room {
		t.Fatalf("Height %d, Room %d, not %d, %d", s.Height(), s.Room(), len(want), room)
	}
	for i, v := range want {
		if got, e := s.Get(i); got != v || e != api.OK {
			t.Fatalf("Get(%d): %d, %d, not %d", i, got, e, v)
		}
	}
	if got, e := s.Get(len(want)); got != 0 || e != api.ErrRange {
		t.Fatalf("Get(%d), beyond: %d, %d", len(want), got, e)
	}
}

// TestNew is of P19.1: how many cells there may be; it is empty.
func TestNew(t *testing.T) {
	for _, cells := range []int{1, 2, 3, 4, 5, 255, 256, 257, 32768, 32769, most - 1, most} {
		a := fresh(t, arena.Class(8*cells))
		s := made(t, a, cells)
		holds(t, s, cells)
		if a.Live() != a.Size() || a.Height() != a.Size() {
			t.Errorf("of %d cells: %d bytes are taken, %d cut off", cells, a.Live(), a.Height())
		}
		if s, e := stack.New(a, 1); s != nil || e != api.ErrFull {
			t.Errorf("another one: %v, %d", s, e)
		}
	}
}

// TestNewWrong is of P19.1: a nil arena is told first, then cells that may not be, then that there is no room; nothing is taken.
func TestNewWrong(t *testing.T) {
	for _, size := range []int{0, 15, 100} {
		a := fresh(t, size)
		for _, cells := range append([]int{0, most + 1, 2 * most}, outside...) {
			if s, e := stack.New(nil, cells); s != nil || e != api.ErrState {
				t.Errorf("New(nil, %d): %v, %d", cells, s, e)
			}
			if s, e := stack.New(a, cells); s != nil || e != api.ErrArg {
				t.Errorf("New of %d cells: %v, %d", cells, s, e)
			}
		}
		if b, _ := a.Bytes(0, size); a.Live() != 0 || a.Height() != 0 || slices.Contains(b, 0) {
			t.Errorf("%d bytes are taken, %d cut off", a.Live(), a.Height())
		}
	}
	if s, e := stack.New(nil, 1); s != nil || e != api.ErrState {
		t.Errorf("New(nil, 1): %v, %d", s, e)
	}
}

// TestNewFull is of P19.1: one byte too few, and nothing is taken.
func TestNewFull(t *testing.T) {
	for _, cells := range []int{1, 2, 3, 4, 5, 8, 9, 1000, most/2 + 1, most} {
		a := fresh(t, arena.Class(8*cells)-1)
		s, e := stack.New(a, cells)
		if b, _ := a.Bytes(0, a.Size()); s != nil || e != api.ErrFull || a.Live() != 0 || a.Height() != 0 || slices.Contains(b, 0) {
			t.Errorf("New of %d cells: %v, %d; %d bytes are taken", cells, s, e, a.Live())
		}
	}
}

// TestPush is of P19.1: the last word is topmost; none are pushed if one of them has no cell.
func TestPush(t *testing.T) {
	s := alone(t, 5)
	for _, c := range []struct {
		l    []uint64
		e    api.Errno
		want []uint64
	}{
		{nil, api.OK, nil},
		{[]uint64{1, 2, 3, 4, 5, 6}, api.ErrDepth, nil},
		{[]uint64{7}, api.OK, []uint64{7}},
		{[]uint64{1, 2, 3, 4, 5}, api.ErrDepth, []uint64{7}},
		{[]uint64{math.MaxUint64, 0, 1 << 63}, api.OK, []uint64{7, math.MaxUint64, 0, 1 << 63}},
		{[]uint64{8, 9}, api.ErrDepth, []uint64{7, math.MaxUint64, 0, 1 << 63}},
		{[]uint64{0x0123456789abcdef}, api.OK, []uint64{7, math.MaxUint64, 0, 1 << 63, 0x0123456789abcdef}},
		{[]uint64{1}, api.ErrDepth, []uint64{7, math.MaxUint64, 0, 1 << 63, 0x0123456789abcdef}},
		{[]uint64{}, api.OK, []uint64{7, math.MaxUint64, 0, 1 << 63, 0x0123456789abcdef}},
	} {
		if e := s.Push(c.l...); e != c.e {
			t.Errorf("Push of %v: %d, not %d", c.l, e, c.e)
		}
		holds(t, s, 5-len(c.want), c.want...)
	}
}

// TestPop is of P19.1: the topmost word is gone; of none ErrRange.
func TestPop(t *testing.T) {
	s := alone(t, 4, 5, 0, math.MaxUint64)
	for i, want := range []uint64{math.MaxUint64, 0, 5} {
		if v, e := s.Pop(); v != want || e != api.OK {
			t.Errorf("Pop: %d, %d, not %d", v, e, want)
		}
		holds(t, s, 2+i, []uint64{5, 0}[:2-i]...)
	}
	for range 2 {
		if v, e := s.Pop(); v != 0 || e != api.ErrRange {
			t.Errorf("Pop of none: %d, %d", v, e)
		}
		holds(t, s, 4)
	}
}

// TestTake is of P19.1: the topmost words, the lowest one first; ErrRange of more than there are, or below none.
func TestTake(t *testing.T) {
	all := []uint64{1, 1 << 40, 3, 4, math.MaxUint64}
	for n := range len(all) + 1 {
		s := alone(t, 7, all...)
		if l, e := s.Take(n); !slices.Equal(l, all[5-n:]) || e != api.OK {
			t.Errorf("Take(%d): %v, %d", n, l, e)
		}
		holds(t, s, 2+n, all[:5-n]...)
	}
	s := alone(t, 7, all...)
	for _, n := range append([]int{6, 7, 8, most, most + 1}, outside...) {
		if l, e := s.Take(n); len(l) != 0 || e != api.ErrRange {
			t.Errorf("Take(%d): %v, %d", n, l, e)
		}
		holds(t, s, 2, all...)
	}
	s.Take(5)
	if l, e := s.Take(0); len(l) != 0 || e != api.OK {
		t.Errorf("Take(0) of none: %v, %d", l, e)
	}
	if l, e := s.Take(1); len(l) != 0 || e != api.ErrRange {
		t.Errorf("Take(1) of none: %v, %d", l, e)
	}
}

// TestGetSet is of P19.1: cells are numbered from below; ErrRange of one that isn't in use.
func TestGetSet(t *testing.T) {
	want := []uint64{10, 11, 12, 13}
	s := alone(t, 6, append(want, 14, 15)...)
	s.Take(2)
	for _, at := range []int{2, 0, 3, 1, 3} {
		want[at] += 1<<56 + 1
		if e := s.Set(at, want[at]); e != api.OK {
			t.Errorf("Set(%d): %d", at, e)
		}
		holds(t, s, 2, want...)
	}
	// Cells 4 and 5 were in use, and aren't.
	for _, at := range append([]int{4, 5, 6, 7, most - 1, most}, outside...) {
		if v, e := s.Get(at); v != 0 || e != api.ErrRange {
			t.Errorf("Get(%d): %d, %d", at, v, e)
		}
		if e := s.Set(at, 99); e != api.ErrRange {
			t.Errorf("Set(%d): %d", at, e)
		}
		holds(t, s, 2, want...)
	}
	empty := alone(t, 6)
	if v, e := empty.Get(0); v != 0 || e != api.ErrRange || empty.Set(0, 1) != api.ErrRange {
		t.Errorf("Get(0) of none: %d, %d", v, e)
	}
}

// TestUnwind is of P19.2: the topmost words stand from a cell on, also where they stood before in part.
func TestUnwind(t *testing.T) {
	all := []uint64{1, 2, 3, 4, 5, 6, math.MaxUint64}
	for keep := range len(all) + 1 {
		for height := range len(all) + 1 {
			s := alone(t, 9, all...)
			e := s.Unwind(keep, height)
			if keep+height > len(all) {
				if e != api.ErrRange {
					t.Errorf("Unwind(%d, %d): %d", keep, height, e)
				}
				holds(t, s, 2, all...)
				continue
			}
			if e != api.OK {
				t.Errorf("Unwind(%d, %d): %d", keep, height, e)
			}
			holds(t, s, 9-keep-height, slices.Concat(all[:height], all[7-keep:])...)
		}
	}
}

// TestUnwindWrong is of P19.2: numbers below 0, or whose sum is above all numbers.
func TestUnwindWrong(t *testing.T) {
	s := alone(t, 5, 1, 2, 3)
	numbers := append([]int{0, 1, 2, 3, 4, 5}, outside...)
	for _, keep := range numbers {
		for _, height := range numbers {
			if keep >= 0 && keep <= 3 && height >= 0 && height <= 3-keep {
				continue
			}
			if e := s.Unwind(keep, height); e != api.ErrRange {
				t.Errorf("Unwind(%d, %d): %d", keep, height, e)
			}
			holds(t, s, 2, 1, 2, 3)
		}
	}
}

// TestExample is the chapter's example.
func TestExample(t *testing.T) {
	s := alone(t, 3, 1, 2, 3)
	if e := s.Unwind(1, 0); e != api.OK {
		t.Errorf("Unwind(1, 0): %d", e)
	}
	holds(t, s, 2, 3)
}

// TestClose is of P19.2: the room is given back once, and is another one's then.
func TestClose(t *testing.T) {
	a := fresh(t, 200)
	a.Take(1)
	s := made(t, a, 3, 1, 2, 3)
	if size, ok := a.Room(16); a.Live() != 48 || size != 32 || !ok {
		t.Errorf("a room of %d bytes, %t; %d are taken", size, ok, a.Live())
	}
	if e := s.Close(); e != api.OK || a.Live() != 16 || a.Height() != 48 {
		t.Errorf("Close: %d; %d bytes are taken", e, a.Live())
	}
	other := made(t, a, 4, 7, 8, 9, 10)
	if a.Live() != 48 || a.Height() != 48 {
		t.Errorf("%d bytes are taken, %d cut off", a.Live(), a.Height())
	}
	shut(t, s)
	holds(t, other, 0, 7, 8, 9, 10)
	if e := other.Close(); e != api.OK || a.Live() != 16 {
		t.Errorf("Close: %d; %d bytes are taken", e, a.Live())
	}
	empty := made(t, a, 1)
	if e := empty.Close(); e != api.OK || a.Live() != 16 {
		t.Errorf("Close of none: %d; %d bytes are taken", e, a.Live())
	}
}

// shut holds that a stack is nil, or closed: ErrState whatever it is asked, and 0.
func shut(t *testing.T, s *stack.Stack) {
	t.Helper()
	for range 2 {
		if e := s.Close(); e != api.ErrState {
			t.Errorf("Close: %d", e)
		}
		for _, n := range append([]int{0, 1, 2, most}, outside...) {
			l, e := s.Take(n)
			v, g := s.Get(n)
			if len(l) != 0 || e != api.ErrState || v != 0 || g != api.ErrState || s.Set(n, 5) != api.ErrState {
				t.Errorf("Take, Get, Set of %d: %v, %d; %d, %d", n, l, e, v, g)
			}
			if s.Unwind(n, 0) != api.ErrState || s.Unwind(0, n) != api.ErrState || s.Unwind(n, n) != api.ErrState {
				t.Errorf("Unwind of %d", n)
			}
		}
		if s.Push() != api.ErrState || s.Push(1) != api.ErrState || s.Push(make([]uint64, most+1)...) != api.ErrState {
			t.Errorf("Push of a stack that is shut")
		}
		if v, e := s.Pop(); v != 0 || e != api.ErrState {
			t.Errorf("Pop: %d, %d", v, e)
		}
		if s.Height() != 0 || s.Room() != 0 {
			t.Errorf("Height %d, Room %d", s.Height(), s.Room())
		}
	}
}

// TestNil is of P19.1 and P19.2: what is told of nil.
func TestNil(t *testing.T) {
	shut(t, nil)
}

// TestCells is of chapter 19's words: each cell is 8 bytes of the room, and no others are written.
func TestCells(t *testing.T) {
	a := fresh(t, 256)
	a.Take(20)
	s := made(t, a, 5)
	a.Take(1)
	a.Copy(0, bytes.Repeat([]byte{255}, 32))
	a.Copy(72, bytes.Repeat([]byte{255}, 184))
	s.Push(1, 2, 3)
	s.Push(0x0102030405060708, math.MaxUint64)
	s.Set(1, 0xf2)
	want := bytes.Repeat([]byte{255}, 256)
	copy(want[32:], make([]byte, 40))
	want[32], want[40], want[48] = 1, 0xf2, 3
	copy(want[56:], []byte{8, 7, 6, 5, 4, 3, 2, 1})
	copy(want[64:], bytes.Repeat([]byte{255}, 8))
	if b, _ := a.Bytes(0, 256); !bytes.Equal(b, want) {
		t.Errorf("the bytes %v, not %v", b, want)
	}
	s.Unwind(2, 1)
	s.Take(1)
	s.Pop()
	b, _ := a.Bytes(0, 256)
	copy(b[32:72], want[32:72])
	if !bytes.Equal(b, want) {
		t.Errorf("the bytes %v, but for the cells not %v", b, want)
	}
}

// TestMost is of P19.1: as many cells as there may be, all in use.
func TestMost(t *testing.T) {
	all := make([]uint64, most)
	for i := range all {
		all[i] = uint64(i) * 0x9e3779b97f4a7c15
	}
	s := alone(t, most, all...)
	holds(t, s, 0, all...)
	if e := s.Push(1); e != api.ErrDepth {
		t.Errorf("Push of one too many: %d", e)
	}
	if e := s.Unwind(most/2, most/2-1); e != api.OK {
		t.Errorf("Unwind: %d", e)
	}
	want := slices.Delete(slices.Clone(all), most/2-1, most/2)
	holds(t, s, 1, want...)
	if l, e := s.Take(most - 1); !slices.Equal(l, want) || e != api.OK {
		t.Errorf("Take: %d words, %d", len(l), e)
	}
	holds(t, s, most)
}

// TestStays is of rules 3 and 4: what is handed in stays, its spare room too, and isn't kept; what is answered is new.
func TestStays(t *testing.T) {
	s := alone(t, 4)
	full := []uint64{1, 2, 3, 4, 5, 6}
	l := full[1:3]
	s.Push(l...)
	s.Push(l...)
	if e := s.Push(l...); e != api.ErrDepth || !slices.Equal(full, []uint64{1, 2, 3, 4, 5, 6}) {
		t.Errorf("Push: %d, and the words are %v", e, full)
	}
	clear(full)
	holds(t, s, 0, 2, 3, 2, 3)
	first, _ := s.Take(2)
	s.Push(7, 8)
	second, _ := s.Take(2)
	if !slices.Equal(first, []uint64{2, 3}) || !slices.Equal(second, []uint64{7, 8}) {
		t.Errorf("Take: %v, then %v", first, second)
	}
	s.Push(7, 8)
	clear(first[:cap(first)])
	clear(second[:cap(second)])
	holds(t, s, 0, 2, 3, 7, 8)
}
