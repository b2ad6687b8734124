package frame_test

import (
	"bytes"
	"math"
	"slices"
	"testing"

	"grommet/api"
	"grommet/arena"
	"grommet/frame"
)

const (
	most     = 10000
	greatest = math.MaxUint32 // of a frame's numbers
)

// outside is numbers below 0, and very great ones.
var outside = []int{math.MinInt, math.MinInt + 1, math.MinInt / 12, math.MinInt32 - 1, math.MinInt32, -greatest, -2, -1, greatest + 1, greatest + 2, 2 * greatest, 1 << 33, math.MaxInt / 12, math.MaxInt - 1, math.MaxInt}

// fresh is an arena of so many bytes, each of which was 255 ahead of a room being taken.
func fresh(t *testing.T, size int) *arena.Arena {
	t.Helper()
	a, e := arena.New(size)
	if e != api.OK {
		t.Fatalf("arena.New(%d): %d", size, e)
	}
	a.Copy(0, bytes.Repeat([]byte{255}, size))
	return a
}

// made is at most so many frames, with some in it.
func made(t *testing.T, a *arena.Arena, many int, l ...frame.Frame) *frame.Frames {
	t.Helper()
	f, e := frame.New(a, many)
	if f == nil || e != api.OK {
		t.Fatalf("New of %d frames: %v, %d", many, f, e)
	}
	for _, x := range l {
		if e := f.Push(x); e != api.OK {
			t.Fatalf("Push of %v: %d", x, e)
		}
	}
	return f
}

// alone is at most so many frames in an arena that has room for these alone.
func alone(t *testing.T, many int, l ...frame.Frame) *frame.Frames {
	t.Helper()
	return made(t, fresh(t, arena.Class(12*many)), many, l...)
}

// holds holds frames against what they must be.
func holds(t *testing.T, f *frame.Frames, want ...frame.Frame) {
	t.Helper()
	if f.Depth() != len(want) {
		t.Fatalf("Depth %d, not %d", f.Depth(), len(want))
	}
	var top frame.Frame
	last := api.ErrRange
	for i, x := range want {
		if got, e := f.At(i); got != x || e != api.OK {
			t.Fatalf("At(%d): %v, %d, not %v", i, got, e, x)
		}
		top, last = x, api.OK
	}
	if got, e := f.Top(); got != top || e != last {
		t.Fatalf("Top: %v, %d, not %v, %d", got, e, top, last)
	}
	if got, e := f.At(len(want)); got != (frame.Frame{}) || e != api.ErrRange {
		t.Fatalf("At(%d), beyond: %v, %d", len(want), got, e)
	}
}

// TestNew is of P20.1: how many there may be; there are none.
func TestNew(t *testing.T) {
	for _, many := range []int{1, 2, 3, 5, 6, 1000, 5461, 5462, most - 1, most} {
		a := fresh(t, arena.Class(12*many))
		f := made(t, a, many)
		holds(t, f)
		if a.Live() != a.Size() || a.Height() != a.Size() {
			t.Errorf("of %d frames: %d bytes are taken, %d cut off", many, a.Live(), a.Height())
		}
		if f, e := frame.New(a, 1); f != nil || e != api.ErrFull {
			t.Errorf("others: %v, %d", f, e)
		}
	}
}

// TestNewWrong is of P20.1: a nil arena is told first, then as many as may not be, then that there is no room; nothing is taken.
func TestNewWrong(t *testing.T) {
	for _, size := range []int{0, 15, 100} {
		a := fresh(t, size)
		for _, many := range append([]int{0, most + 1, 2 * most}, outside...) {
			if f, e := frame.New(nil, many); f != nil || e != api.ErrState {
				t.Errorf("New(nil, %d): %v, %d", many, f, e)
			}
			if f, e := frame.New(a, many); f != nil || e != api.ErrArg {
				t.Errorf("New of %d frames: %v, %d", many, f, e)
			}
		}
		if b, _ := a.Bytes(0, size); a.Live() != 0 || a.Height() != 0 || slices.Contains(b, 0) {
			t.Errorf("%d bytes are taken, %d cut off", a.Live(), a.Height())
		}
	}
	if f, e := frame.New(nil, 1); f != nil || e != api.ErrState {
		t.Errorf("New(nil, 1): %v, %d", f, e)
	}
}

// TestNewFull is of P20.1: one byte too few, and nothing is taken.
func TestNewFull(t *testing.T) {
	for _, many := range []int{1, 2, 3, 5, 6, 1000, most} {
		a := fresh(t, arena.Class(12*many)-1)
		f, e := frame.New(a, many)
		if b, _ := a.Bytes(0, a.Size()); f != nil || e != api.ErrFull || a.Live() != 0 || a.Height() != 0 || slices.Contains(b, 0) {
			t.Errorf("New of %d frames: %v, %d; %d bytes are taken", many, f, e, a.Live())
		}
	}
}

// TestPush is of P20.1: the last one is on top; one too many changes nothing.
func TestPush(t *testing.T) {
	f := alone(t, 3)
	l := []frame.Frame{{1, 2, 3}, {}, {greatest, 0x12345678, 1 << 31}}
	for i, x := range l {
		if e := f.Push(x); e != api.OK {
			t.Errorf("Push of %v: %d", x, e)
		}
		holds(t, f, l[:i+1]...)
	}
	for _, x := range l {
		if e := f.Push(x); e != api.ErrDepth {
			t.Errorf("Push of %v, one too many: %d", x, e)
		}
		holds(t, f, l...)
	}
}

// wrong is frames, each of which has a number that may not be, and others, whose numbers may just be.
func wrong() ([]frame.Frame, []frame.Frame) {
	var l, edges []frame.Frame
	for _, n := range outside {
		l = append(l, frame.Frame{Func: n}, frame.Frame{Place: n}, frame.Frame{Base: n}, frame.Frame{n, n, n})
		l = append(l, frame.Frame{n, 1, greatest}, frame.Frame{1, n, greatest}, frame.Frame{greatest, 1, n})
	}
	for _, n := range []int{0, 1, 255, 256, 65535, 65536, 1<<31 - 1, 1 << 31, greatest - 1, greatest} {
		edges = append(edges, frame.Frame{Func: n}, frame.Frame{Place: n}, frame.Frame{Base: n}, frame.Frame{n, n, n})
	}
	return l, edges
}

// TestPushNumbers is of P20.1: ErrArg of a number that may not be, ahead of ErrDepth.
func TestPushNumbers(t *testing.T) {
	l, edges := wrong()
	bottom := frame.Frame{9, 8, 7}
	f, full := alone(t, 3, bottom), alone(t, 1, bottom)
	for _, x := range l {
		if e := f.Push(x); e != api.ErrArg {
			t.Errorf("Push of %v: %d", x, e)
		}
		holds(t, f, bottom)
		if e := full.Push(x); e != api.ErrArg {
			t.Errorf("Push of %v, one too many: %d", x, e)
		}
		holds(t, full, bottom)
	}
	for _, x := range edges {
		if e := f.Push(x); e != api.OK {
			t.Errorf("Push of %v: %d", x, e)
		}
		holds(t, f, bottom, x)
		if got, e := f.Pop(); got != x || e != api.OK {
			t.Errorf("Pop: %v, %d, not %v", got, e, x)
		}
		if e := full.Push(x); e != api.ErrDepth {
			t.Errorf("Push of %v, one too many: %d", x, e)
		}
	}
	holds(t, full, bottom)
}

// TestPop is of P20.1: the top one is gone; ErrRange without any.
func TestPop(t *testing.T) {
	l := []frame.Frame{{1, 2, 3}, {4, 5, 6}, {greatest, greatest, greatest}}
	f := alone(t, 4, l...)
	for i := 2; i >= 0; i-- {
		if x, e := f.Top(); x != l[i] || e != api.OK {
			t.Errorf("Top: %v, %d, not %v", x, e, l[i])
		}
		if x, e := f.Pop(); x != l[i] || e != api.OK {
			t.Errorf("Pop: %v, %d, not %v", x, e, l[i])
		}
		holds(t, f, l[:i]...)
	}
	for range 2 {
		if x, e := f.Pop(); x != (frame.Frame{}) || e != api.ErrRange {
			t.Errorf("Pop without any: %v, %d", x, e)
		}
		holds(t, f)
	}
}

// TestGo is of P20.1: the top one's place alone; ErrRange without any, ahead of ErrArg.
func TestGo(t *testing.T) {
	bottom := frame.Frame{1, 2, 3}
	f := alone(t, 2, bottom, frame.Frame{4, 5, 6})
	for _, place := range []int{9, 0, 1, 255, 256, 65536, 1 << 31, greatest - 1, greatest, 5} {
		if e := f.Go(place); e != api.OK {
			t.Errorf("Go(%d): %d", place, e)
		}
		holds(t, f, bottom, frame.Frame{4, place, 6})
		for _, n := range outside {
			if e := f.Go(n); e != api.ErrArg {
				t.Errorf("Go(%d): %d", n, e)
			}
			holds(t, f, bottom, frame.Frame{4, place, 6})
		}
	}
	f.Pop()
	f.Pop()
	for _, place := range append([]int{0, 1, greatest}, outside...) {
		if e := f.Go(place); e != api.ErrRange {
			t.Errorf("Go(%d) without any: %d", place, e)
		}
		holds(t, f)
	}
	// What was gone to is gone with its frame.
	f.Push(bottom)
	holds(t, f, bottom)
}

// TestAt is of P20.1: from below, from 0 on; ErrRange of what isn't there, or isn't any more.
func TestAt(t *testing.T) {
	l := []frame.Frame{{1, 2, 3}, {4, 5, 6}, {7, 8, 9}, {10, 11, 12}}
	f := alone(t, 5, l...)
	f.Pop()
	for i, want := range l[:3] {
		if x, e := f.At(i); x != want || e != api.OK {
			t.Errorf("At(%d): %v, %d, not %v", i, x, e, want)
		}
	}
	for _, n := range append([]int{3, 4, 5, 6, most, greatest}, outside...) {
		if x, e := f.At(n); x != (frame.Frame{}) || e != api.ErrRange {
			t.Errorf("At(%d): %v, %d", n, x, e)
		}
	}
	holds(t, f, l[:3]...)
}

// TestClear is of P20.2: none is left, and as many may come as before.
func TestClear(t *testing.T) {
	l := []frame.Frame{{1, 2, 3}, {4, 5, 6}, {7, 8, 9}}
	a := fresh(t, 64)
	f := made(t, a, 3, l...)
	for _, n := range []int{3, 2, 1, 0} {
		f.Clear()
		if x, e := f.Pop(); x != (frame.Frame{}) || e != api.ErrRange || f.Go(1) != api.ErrRange || a.Live() != 64 {
			t.Errorf("behind Clear: %v, %d; %d bytes are taken", x, e, a.Live())
		}
		holds(t, f)
		for _, x := range l[:n] {
			f.Push(x)
		}
		holds(t, f, l[:n]...)
	}
}

// TestExample is the chapter's example.
func TestExample(t *testing.T) {
	f := alone(t, 1, frame.Frame{1, 2, 3})
	if e := f.Go(9); e != api.OK {
		t.Errorf("Go(9): %d", e)
	}
	holds(t, f, frame.Frame{1, 9, 3})
}

// TestClose is of P20.2: the room is given back once, and is another one's then.
func TestClose(t *testing.T) {
	a := fresh(t, 200)
	a.Take(1)
	x, y := frame.Frame{1, 2, 3}, frame.Frame{4, 5, 6}
	f := made(t, a, 2, x, y)
	if size, ok := a.Room(16); a.Live() != 48 || size != 32 || !ok {
		t.Errorf("a room of %d bytes, %t; %d are taken", size, ok, a.Live())
	}
	if e := f.Close(); e != api.OK || a.Live() != 16 || a.Height() != 48 {
		t.Errorf("Close: %d; %d bytes are taken", e, a.Live())
	}
	other := made(t, a, 2, y, x)
	if a.Live() != 48 || a.Height() != 48 {
		t.Errorf("%d bytes are taken, %d cut off", a.Live(), a.Height())
	}
	shut(t, f)
	holds(t, other, y, x)
	if e := other.Close(); e != api.OK || a.Live() != 16 {
		t.Errorf("Close: %d; %d bytes are taken", e, a.Live())
	}
	none := made(t, a, 1)
	if e := none.Close(); e != api.OK || a.Live() != 16 {
		t.Errorf("Close of none: %d; %d bytes are taken", e, a.Live())
	}
}

// shut holds that frames are nil, or closed: ErrState whatever they are asked, 0, and nothing.
func shut(t *testing.T, f *frame.Frames) {
	t.Helper()
	l, edges := wrong()
	for range 2 {
		if e := f.Close(); e != api.ErrState {
			t.Errorf("Close: %d", e)
		}
		for _, n := range append([]int{0, 1, 2, most, greatest}, outside...) {
			if x, e := f.At(n); x != (frame.Frame{}) || e != api.ErrState || f.Go(n) != api.ErrState {
				t.Errorf("At, Go of %d: %v, %d", n, x, e)
			}
		}
		for _, x := range append(edges, l...) {
			if e := f.Push(x); e != api.ErrState {
				t.Errorf("Push of %v: %d", x, e)
			}
		}
		f.Clear()
		x, e := f.Pop()
		y, g := f.Top()
		if x != (frame.Frame{}) || e != api.ErrState || y != (frame.Frame{}) || g != api.ErrState || f.Depth() != 0 {
			t.Errorf("Pop, Top: %v, %d; %v, %d; Depth %d", x, e, y, g, f.Depth())
		}
	}
}

// TestNil is of P20.1 and P20.2: what is told of nil.
func TestNil(t *testing.T) {
	shut(t, nil)
}

// TestBytes is of chapter 20's words: each frame is 12 bytes of the room, and no others are written.
func TestBytes(t *testing.T) {
	a := fresh(t, 256)
	a.Take(20)
	f := made(t, a, 5)
	a.Take(1)
	a.Copy(0, bytes.Repeat([]byte{255}, 32))
	a.Copy(92, bytes.Repeat([]byte{255}, 164))
	f.Push(frame.Frame{1, 0x0203, 0x040506})
	f.Push(frame.Frame{0x0708090a, 11, greatest})
	f.Push(frame.Frame{})
	f.Push(frame.Frame{})
	f.Push(frame.Frame{1 << 31, 12, 13})
	f.Go(0x0e0f)
	want := bytes.Repeat([]byte{255}, 256)
	copy(want[32:], make([]byte, 60))
	copy(want[32:], []byte{1, 0, 0, 0, 3, 2, 0, 0, 6, 5, 4, 0, 10, 9, 8, 7, 11, 0, 0, 0, 255, 255, 255, 255})
	copy(want[80:], []byte{0, 0, 0, 128, 15, 14, 0, 0, 13, 0, 0, 0})
	if b, _ := a.Bytes(0, 256); !bytes.Equal(b, want) {
		t.Errorf("the bytes %v, not %v", b, want)
	}
	f.Pop()
	f.Go(7)
	f.Clear()
	b, _ := a.Bytes(0, 256)
	copy(b[32:92], want[32:92])
	if !bytes.Equal(b, want) {
		t.Errorf("the bytes %v, but for the frames not %v", b, want)
	}
}

// TestMost is of P20.1: as many as there may be.
func TestMost(t *testing.T) {
	f := alone(t, most)
	var l []frame.Frame
	for i := range most {
		x := frame.Frame{i, greatest - i, i * 429000}
		if e := f.Push(x); e != api.OK {
			t.Fatalf("Push of %v: %d", x, e)
		}
		l = append(l, x)
	}
	if e := f.Push(frame.Frame{}); e != api.ErrDepth {
		t.Errorf("Push of one too many: %d", e)
	}
	holds(t, f, l...)
	for _, want := range slices.Backward(l) {
		if x, e := f.Pop(); x != want || e != api.OK {
			t.Fatalf("Pop: %v, %d, not %v", x, e, want)
		}
	}
	holds(t, f)
}
