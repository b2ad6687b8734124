package pager_test

import (
	"bytes"
	"math"
	"testing"

	"grommet/api"
	"grommet/arena"
	"grommet/block"
	"grommet/pager"
)

// numbers are those below 0, and very great ones.
var numbers = []int{math.MinInt, math.MinInt32, -1, math.MaxInt32, math.MaxInt - 1, math.MaxInt}

// device is a pager, and what it is made of.
type device struct {
	*pager.Pager
	arena *arena.Arena
	store *block.Store
}

// space is an arena of so many bytes.
func space(t *testing.T, size int) *arena.Arena {
	t.Helper()
	a, e := arena.New(size)
	if e != api.OK {
		t.Fatalf("arena.New(%d): %d", size, e)
	}
	return a
}

// blocks is a store of so many blocks of size bytes.
func blocks(t *testing.T, size, capacity int) *block.Store {
	t.Helper()
	s, e := block.New(size, capacity)
	if e != api.OK {
		t.Fatalf("block.New(%d, %d): %d", size, capacity, e)
	}
	return s
}

// made is a pager that may be, of a page of 16 bytes, in an arena that has just room for its frames.
func made(t *testing.T, frames, capacity int) device {
	t.Helper()
	a, s := space(t, 16*frames), blocks(t, 16, capacity)
	p, e := pager.New(a, s, frames)
	if p == nil || e != api.OK {
		t.Fatalf("New of %d frames: %v, %d", frames, p, e)
	}
	return device{p, a, s}
}

// write writes bytes that may be written.
func (d device) write(t *testing.T, mem, page, at int, b ...byte) {
	t.Helper()
	if e := d.Write(mem, page, at, b); e != api.OK {
		t.Fatalf("Write(%d, %d, %d, %v): %d", mem, page, at, b, e)
	}
}

// reads holds bytes of a page against what they must be.
func (d device) reads(t *testing.T, mem, page, at int, want ...byte) {
	t.Helper()
	if b, e := d.Read(mem, page, at, len(want)); !bytes.Equal(b, want) || e != api.OK {
		t.Fatalf("Read(%d, %d, %d): %v, %d, not %v", mem, page, at, b, e, want)
	}
}

// zeros holds that a page is all 0.
func (d device) zeros(t *testing.T, mem, page int) {
	t.Helper()
	d.reads(t, mem, page, 0, make([]byte, 16)...)
}

// flush writes all frames, and nothing fails.
func (d device) flush(t *testing.T) {
	t.Helper()
	if e := d.Flush(); e != api.OK {
		t.Fatalf("Flush: %d", e)
	}
}

// drop drops a memory, and nothing fails.
func (d device) drop(t *testing.T, mem int) {
	t.Helper()
	if e := d.Drop(mem); e != api.OK {
		t.Fatalf("Drop(%d): %d", mem, e)
	}
}

// tells holds how many frames have a page, how many blocks are in use, and how many operations there were, against what they must be.
func (d device) tells(t *testing.T, resident, used, ops int) {
	t.Helper()
	if d.Resident() != resident || d.store.Used() != used || d.store.Ops() != ops {
		t.Fatalf("Resident %d, Used %d, Ops %d, not %d, %d, %d", d.Resident(), d.store.Used(), d.store.Ops(), resident, used, ops)
	}
}

// works holds that it isn't broken, and how many bytes a page has.
func (d device) works(t *testing.T) {
	t.Helper()
	if d.Fault() != api.OK || d.Size() != 16 {
		t.Fatalf("Fault %d, Size %d", d.Fault(), d.Size())
	}
}

// ended holds that it answers nothing any more, and does no operation, whatever it is asked, also where that isn't as it must be.
func (d device) ended(t *testing.T) {
	t.Helper()
	ops, used, resident, fault := d.store.Ops(), d.store.Used(), d.Resident(), d.Fault()
	for _, n := range append(numbers, 0, 1, 17) {
		if b, e := d.Read(n, n, n, n); b != nil || e != api.ErrState {
			t.Errorf("Read(%d): %v, %d", n, b, e)
		}
		if b, e := d.Read(0, n&15, 0, 1); b != nil || e != api.ErrState {
			t.Errorf("Read: %v, %d", b, e)
		}
		if e := d.Write(n, n, n, nil); e != api.ErrState {
			t.Errorf("Write(%d): %d", n, e)
		}
		if e := d.Write(0, n&15, 0, []byte{1}); e != api.ErrState {
			t.Errorf("Write: %d", e)
		}
		if e := d.Drop(n); e != api.ErrState {
			t.Errorf("Drop(%d): %d", n, e)
		}
		if e := d.Flush(); e != api.ErrState {
			t.Errorf("Flush: %d", e)
		}
	}
	if d.store.Ops() != ops || d.store.Used() != used || d.Resident() != resident || d.Fault() != fault || d.Size() != 16 {
		t.Errorf("Ops %d, Used %d, Resident %d, Fault %d, Size %d", d.store.Ops(), d.store.Used(), d.Resident(), d.Fault(), d.Size())
	}
}

// TestNew is of P7.1: from 1 to 64 frames, each in a room of its own, of as many bytes as a block; at first none has a page, and there was no operation.
func TestNew(t *testing.T) {
	for _, size := range []int{16, 17, 100, 1024} {
		class := arena.Class(size)
		for frames := 1; frames <= 64; frames++ {
			a, s := space(t, 64*1024), blocks(t, size, 3)
			p, e := pager.New(a, s, frames)
			if p == nil || e != api.OK {
				t.Fatalf("New of %d frames: %v, %d", frames, p, e)
			}
			if p.Size() != size || p.Resident() != 0 || p.Fault() != api.OK || s.Ops() != 0 {
				t.Errorf("Size %d, Resident %d, Fault %d, Ops %d", p.Size(), p.Resident(), p.Fault(), s.Ops())
			}
			if a.Live() != frames*class || a.Height() != frames*class {
				t.Errorf("%d frames of %d bytes: Live %d, Height %d", frames, size, a.Live(), a.Height())
			}
			for i := range frames {
				if n, ok := a.Room(i * class); n != class || !ok {
					t.Errorf("Room(%d): %d, %t", i*class, n, ok)
				}
			}
		}
	}
}

// TestNewNil is of P7.1: a nil arena, and a nil store, are told ahead of frames that may not be.
func TestNewNil(t *testing.T) {
	a, s := space(t, 100), blocks(t, 16, 1)
	for _, frames := range append(numbers, 0, 1, 64, 65) {
		for _, c := range []struct {
			a *arena.Arena
			s *block.Store
		}{{nil, nil}, {a, nil}, {nil, s}} {
			if p, e := pager.New(c.a, c.s, frames); p != nil || e != api.ErrState {
				t.Errorf("New of %d frames: %v, %d", frames, p, e)
			}
		}
	}
	if a.Height() != 0 || s.Ops() != 0 {
		t.Errorf("Height %d, Ops %d", a.Height(), s.Ops())
	}
}

// TestNewFrames is of P7.1: other numbers of frames are told ahead of an arena without room; nothing is taken.
func TestNewFrames(t *testing.T) {
	for _, size := range []int{0, 1 << 20} {
		a := space(t, size)
		for _, frames := range append(numbers, -64, 0, 65, 128) {
			if p, e := pager.New(a, blocks(t, 16, 1), frames); p != nil || e != api.ErrArg {
				t.Errorf("New of %d frames: %v, %d", frames, p, e)
			}
		}
		if a.Height() != 0 {
			t.Errorf("Height %d", a.Height())
		}
	}
}

// TestNewFull is of P7.1: an arena that has just room for all frames, and one that misses a byte: nothing is taken of that, not for a time either.
func TestNewFull(t *testing.T) {
	for _, size := range []int{16, 20, 1000} {
		class := arena.Class(size)
		for _, frames := range []int{1, 2, 3, 63, 64} {
			for _, ahead := range []int{0, 16} {
				a := space(t, ahead+frames*class-1)
				if ahead > 0 {
					a.Take(ahead)
				}
				if p, e := pager.New(a, blocks(t, size, 1), frames); p != nil || e != api.ErrFull {
					t.Errorf("New of %d frames: %v, %d", frames, p, e)
				}
				if a.Live() != ahead || a.Height() != ahead {
					t.Errorf("%d frames: Live %d, Height %d", frames, a.Live(), a.Height())
				}
				a = space(t, ahead+frames*class)
				if ahead > 0 {
					a.Take(ahead)
				}
				if p, e := pager.New(a, blocks(t, size, 1), frames); p == nil || e != api.OK || a.Live() != a.Size() {
					t.Errorf("New of %d frames: %d", frames, e)
				}
			}
		}
	}
	if p, e := pager.New(space(t, 0), blocks(t, 16, 1), 1); p != nil || e != api.ErrFull {
		t.Errorf("New: %v, %d", p, e)
	}
}

// holed is an arena of which rooms of 16 bytes were given back, so many, the later ones first, and behind which so many can be cut off; its bytes are all 7.
func holed(t *testing.T, given, left int) *arena.Arena {
	t.Helper()
	a := space(t, 32+16*(given+left))
	a.Take(32)
	for range given {
		a.Take(16)
	}
	for i := given - 1; i >= 0; i-- {
		a.Give(32 + 16*i)
	}
	a.Copy(0, bytes.Repeat([]byte{7}, a.Size()))
	return a
}

// TestNewAgain is of P7.1: rooms that were given back are taken, then others are cut off, as long as there are enough of both together; else nothing is changed.
func TestNewAgain(t *testing.T) {
	for given := range 4 {
		for left := range 4 {
			for frames := 1; frames < 9; frames++ {
				a := holed(t, given, left)
				p, e := pager.New(a, blocks(t, 16, 1), frames)
				if frames <= given+left {
					if p == nil || e != api.OK || a.Live() != 32+16*frames || a.Height() != 32+16*max(given, frames) {
						t.Errorf("%d given, %d left: New of %d frames: %d, Live %d, Height %d", given, left, frames, e, a.Live(), a.Height())
					}
					continue
				}
				if p != nil || e != api.ErrFull {
					t.Errorf("%d given, %d left: New of %d frames: %v, %d", given, left, frames, p, e)
				}
				unchanged(t, a, given)
			}
		}
	}
}

// unchanged holds that a holed arena is as it was: its bytes, what is taken, and in which order rooms are taken again.
func unchanged(t *testing.T, a *arena.Arena, given int) {
	t.Helper()
	if a.Live() != 32 || a.Height() != 32+16*given {
		t.Errorf("Live %d, Height %d", a.Live(), a.Height())
	}
	if b, _ := a.Bytes(0, a.Size()); !bytes.Equal(b, bytes.Repeat([]byte{7}, a.Size())) {
		t.Errorf("Bytes: %v", b)
	}
	for i := 0; 32+16*i < a.Size(); i++ {
		if at, e := a.Take(16); at != 32+16*i || e != api.OK {
			t.Errorf("Take: %d, %d, not %d", at, e, 32+16*i)
		}
	}
}

// TestNewFewAgain is of P7.1: rooms were given back, but too few, and what else was given back is of other classes: nothing stays taken, no byte is changed, and rooms are taken again in the same order.
func TestNewFewAgain(t *testing.T) {
	for _, size := range []int{16*4 + 64, 16*4 + 64 + 16, 16*4 + 64 + 40} {
		a := space(t, size)
		for range 4 {
			a.Take(16)
		}
		a.Take(64)
		for _, at := range []int{0, 64, 48, 16} {
			a.Give(at)
		}
		want := bytes.Repeat([]byte{9}, size)
		a.Copy(0, want)
		if p, e := pager.New(a, blocks(t, 16, 1), 6); p != nil || e != api.ErrFull || a.Live() != 16 {
			t.Errorf("New: %v, %d, Live %d", p, e, a.Live())
		}
		if b, _ := a.Bytes(0, size); !bytes.Equal(b, want) {
			t.Errorf("Bytes: %v", b)
		}
		var got []int
		for at, e := a.Take(16); e == api.OK; at, e = a.Take(16) {
			got = append(got, at)
		}
		more := (size - 128) / 16
		if len(got) != 3+more || got[more] != 16 && got[0] != 16 || got[len(got)-1] != 0 && got[2] != 0 {
			t.Errorf("of %d bytes: rooms at %v", size, got)
		}
		if at, e := a.Take(64); at != 64 || e != api.OK {
			t.Errorf("Take: %d, %d", at, e)
		}
	}
}

// TestNewOtherClass is of P7.1: what was given back is of another class, as only taking tells: nothing stays taken, no byte is changed, and no more was cut off than one room.
func TestNewOtherClass(t *testing.T) {
	for left := 1; left < 6; left++ {
		for missing := 1; missing < 4; missing++ {
			a := space(t, 64+16*left)
			a.Take(64)
			a.Give(0)
			want := bytes.Repeat([]byte{9}, a.Size())
			a.Copy(0, want)
			if p, e := pager.New(a, blocks(t, 16, 1), left+missing); p != nil || e != api.ErrFull {
				t.Errorf("New: %v, %d", p, e)
			}
			if a.Live() != 0 || a.Height() > 80 {
				t.Errorf("%d left, %d missing: Live %d, Height %d", left, missing, a.Live(), a.Height())
			}
			if b, _ := a.Bytes(0, a.Size()); !bytes.Equal(b, want) {
				t.Errorf("Bytes: %v", b)
			}
			if at, e := a.Take(64); at != 0 || e != api.OK {
				t.Errorf("Take: %d, %d", at, e)
			}
		}
	}
}

// TestBesideRooms is of P7.1: what is written stands in its frames' rooms, and changes no byte beside them.
func TestBesideRooms(t *testing.T) {
	a, s := space(t, 1000), blocks(t, 20, 9)
	a.Take(16)
	p, e := pager.New(a, s, 3)
	if e != api.OK {
		t.Fatalf("New: %d", e)
	}
	a.Take(16)
	want := bytes.Repeat([]byte{255}, 1000)
	a.Copy(0, want)
	for i := range 12 {
		p.Write(0, i%5, 0, bytes.Repeat([]byte{byte(i % 2)}, 20))
		p.Read(0, i%3, 0, 20)
	}
	b, _ := a.Bytes(0, 1000)
	for i := range 3 {
		copy(want[16+32*i:], b[16+32*i:][:20])
	}
	if !bytes.Equal(b, want) || bytes.Equal(b[16:36], bytes.Repeat([]byte{255}, 20)) {
		t.Errorf("Bytes: %v", b)
	}
}

// TestUnwritten is of P7.1: pages that weren't written are all 0, whatever stood in the frame ahead of it, and need no block.
func TestUnwritten(t *testing.T) {
	d := made(t, 2, 0)
	d.arena.Copy(0, bytes.Repeat([]byte{255}, 32))
	for i := range 20 {
		d.zeros(t, i%3, i)
		d.tells(t, min(i+1, 2), 0, 0)
	}
	d.zeros(t, math.MaxInt, math.MaxInt)
	d.zeros(t, 0, math.MaxInt)
	d.tells(t, 2, 0, 0)
	d.works(t)
}

// TestFrameIsZero is of P7.1: a page that wasn't written is all 0 in a frame in which another one stood.
func TestFrameIsZero(t *testing.T) {
	d := made(t, 1, 2)
	d.write(t, 0, 0, 0, bytes.Repeat([]byte{255}, 16)...)
	d.zeros(t, 0, 1)
	d.write(t, 0, 2, 5, 1)
	d.reads(t, 0, 2, 4, 0, 1, 0)
	d.reads(t, 0, 0, 0, bytes.Repeat([]byte{255}, 16)...)
}

// TestWritten is of P7.1 and P7.3: what was written last is read, part by part, in few frames and in many; the other bytes stay.
func TestWritten(t *testing.T) {
	for _, frames := range []int{1, 2, 3, 8, 64} {
		d := made(t, frames, 8)
		for page := range 8 {
			d.write(t, 0, page, 4, 1, 2, byte(page), 4)
		}
		for page := range 8 {
			d.reads(t, 0, page, 3, 0, 1, 2, byte(page), 4, 0)
			d.write(t, 0, page, 5, 8, 9)
		}
		for page := range 8 {
			d.reads(t, 0, page, 0, 0, 0, 0, 0, 1, 8, 9, 4, 0, 0, 0, 0, 0, 0, 0, 0)
			if d.Resident() != min(frames, 8) {
				t.Errorf("%d frames: Resident %d", frames, d.Resident())
			}
		}
		d.works(t)
	}
}

// TestPlaces is of P7.1: all places and lengths around those that are there, of pages in frames, in blocks, and new; what isn't there brings no page into a frame.
func TestPlaces(t *testing.T) {
	for at := -2; at <= 18; at++ {
		for n := -2; n <= 19; n++ {
			d := made(t, 1, 2)
			d.write(t, 0, 0, 0, 0, 1, 2, 3, 4, 5, 6, 7, 8, 9, 10, 11, 12, 13, 14, 15)
			d.write(t, 0, 1, 0, 1)
			there := at >= 0 && n >= 0 && at+n <= 16
			b, e := d.Read(0, 0, at, n)
			if !there {
				if b != nil || e != api.ErrRange {
					t.Errorf("Read at %d, %d bytes: %v, %d", at, n, b, e)
				}
				d.tells(t, 1, 1, 2)
				continue
			}
			if e != api.OK || len(b) != n || n > 0 && (b[0] != byte(at) || b[n-1] != byte(at+n-1)) {
				t.Errorf("Read at %d, %d bytes: %v, %d", at, n, b, e)
			}
		}
	}
}

// TestWritePlaces is of P7.1: likewise, of what is written.
func TestWritePlaces(t *testing.T) {
	for at := -2; at <= 18; at++ {
		for n := range 20 {
			d := made(t, 1, 1)
			want := bytes.Repeat([]byte{5}, 16)
			d.write(t, 0, 0, 0, want...)
			there := at >= 0 && at+n <= 16
			e := d.Write(0, 0, at, bytes.Repeat([]byte{6}, n))
			if there && e != api.OK || !there && e != api.ErrRange {
				t.Errorf("Write at %d, %d bytes: %d", at, n, e)
			}
			if there {
				copy(want[at:], bytes.Repeat([]byte{6}, n))
			} else if e := d.Write(7, 7, at, make([]byte, n)); e != api.ErrRange {
				t.Errorf("Write at %d, %d bytes of a new page: %d", at, n, e)
			}
			d.tells(t, 1, 0, 0)
			d.reads(t, 0, 0, 0, want...)
		}
	}
}

// TestGreatestPage is of P7.1: a page of the greatest size, up to its last byte, and one beyond.
func TestGreatestPage(t *testing.T) {
	a, s := space(t, 1024), blocks(t, 1024, 2)
	p, e := pager.New(a, s, 1)
	if e != api.OK || p.Size() != 1024 {
		t.Fatalf("New: %d, Size %d", e, p.Size())
	}
	if e := p.Write(0, 0, 1023, []byte{3}); e != api.OK {
		t.Errorf("Write: %d", e)
	}
	if e := p.Write(0, 1, 0, []byte{4}); e != api.OK {
		t.Errorf("Write: %d", e)
	}
	if b, e := p.Read(0, 0, 1023, 1); !bytes.Equal(b, []byte{3}) || e != api.OK {
		t.Errorf("Read: %v, %d", b, e)
	}
	if b, e := p.Read(0, 0, 1023, 2); b != nil || e != api.ErrRange {
		t.Errorf("Read: %v, %d", b, e)
	}
	if e := p.Write(0, 0, 1024, []byte{3}); e != api.ErrRange {
		t.Errorf("Write: %d", e)
	}
	if e := p.Write(0, 0, 0, make([]byte, 1025)); e != api.ErrRange {
		t.Errorf("Write: %d", e)
	}
	if b, e := p.Read(0, 0, 0, 1024); len(b) != 1024 || b[0] != 0 || b[1023] != 3 || e != api.OK {
		t.Errorf("Read: %v, %d", b, e)
	}
}

// TestWrongPage is of P7.1: memories and pages below 0 are told ahead of places that aren't there; nothing is changed.
func TestWrongPage(t *testing.T) {
	d := made(t, 1, 1)
	d.write(t, 0, 0, 0, 1)
	for _, c := range [][2]int{{-1, 0}, {0, -1}, {-1, -1}, {math.MinInt, 0}, {0, math.MinInt}, {math.MaxInt, -1}, {-1, math.MaxInt}} {
		for _, n := range append(numbers, 0, 1, 16, 17) {
			if b, e := d.Read(c[0], c[1], n, n); b != nil || e != api.ErrArg {
				t.Errorf("Read(%d, %d): %v, %d", c[0], c[1], b, e)
			}
			if b, e := d.Read(c[0], c[1], 0, n); b != nil || e != api.ErrArg {
				t.Errorf("Read(%d, %d): %v, %d", c[0], c[1], b, e)
			}
			if e := d.Write(c[0], c[1], n, []byte{2}); e != api.ErrArg {
				t.Errorf("Write(%d, %d): %d", c[0], c[1], e)
			}
		}
	}
	for _, mem := range []int{-1, -2, math.MinInt32, math.MinInt} {
		if e := d.Drop(mem); e != api.ErrArg {
			t.Errorf("Drop(%d): %d", mem, e)
		}
	}
	d.tells(t, 1, 0, 0)
	d.reads(t, 0, 0, 0, 1)
	d.works(t)
}

// TestGreatPlaces is of P7.1: places and lengths below 0, and very great, whose sum is beyond all numbers.
func TestGreatPlaces(t *testing.T) {
	d := made(t, 1, 1)
	d.write(t, 0, 0, 0, 1)
	for _, at := range append(numbers, 17) {
		for _, n := range append(numbers, 0, 1, 16, 17) {
			if b, e := d.Read(0, 0, at, n); b != nil || e != api.ErrRange {
				t.Errorf("Read at %d, %d bytes: %v, %d", at, n, b, e)
			}
			if b, e := d.Read(1, 5, at, n); b != nil || e != api.ErrRange {
				t.Errorf("Read at %d, %d bytes: %v, %d", at, n, b, e)
			}
			if b, e := d.Read(0, 0, max(n, 1), at); b != nil || e != api.ErrRange {
				t.Errorf("Read at %d, %d bytes: %v, %d", max(n, 1), at, b, e)
			}
		}
		for n := range 18 {
			if e := d.Write(0, 0, at, make([]byte, n)); e != api.ErrRange {
				t.Errorf("Write at %d, %d bytes: %d", at, n, e)
			}
		}
	}
	d.tells(t, 1, 0, 0)
	d.reads(t, 0, 0, 0, 1)
	d.works(t)
}

// TestNoBytes is of P7.1: no bytes at a place that is there, the end among them, are read and written; the page is wanted in a frame, but isn't changed.
func TestNoBytes(t *testing.T) {
	for _, at := range []int{0, 1, 15, 16} {
		d := made(t, 1, 1)
		if b, e := d.Read(0, 0, at, 0); len(b) != 0 || e != api.OK {
			t.Errorf("Read: %v, %d", b, e)
		}
		d.tells(t, 1, 0, 0)
		d.write(t, 0, 1, 0, 1)
		d.write(t, 0, 0, at)
		d.tells(t, 1, 1, 2)
		for _, none := range [][]byte{nil, {}} {
			d.write(t, 0, 1, at, none...)
			d.write(t, 0, 0, at, none...)
		}
		d.tells(t, 1, 1, 4)
		if b, e := d.Read(0, 1, at, 0); len(b) != 0 || e != api.OK {
			t.Errorf("Read: %v, %d", b, e)
		}
		d.tells(t, 1, 1, 5)
		d.reads(t, 0, 1, 0, 1)
		d.zeros(t, 0, 0)
	}
}

// TestCopies is of P7.3: neither what was handed in nor what was answered is the pager's own; what was handed in isn't changed, its spare room neither.
func TestCopies(t *testing.T) {
	d := made(t, 1, 2)
	room := bytes.Repeat([]byte{3}, 20)
	d.write(t, 0, 0, 2, room[:4]...)
	if e := d.Write(0, 0, 2, room[:4]); e != api.OK {
		t.Errorf("Write: %d", e)
	}
	if !bytes.Equal(room, bytes.Repeat([]byte{3}, 20)) {
		t.Errorf("what was handed in is now %v", room)
	}
	clear(room)
	for range 3 {
		b, e := d.Read(0, 0, 1, 6)
		if !bytes.Equal(b, []byte{0, 3, 3, 3, 3, 0}) || e != api.OK {
			t.Errorf("Read: %v, %d", b, e)
		}
		clear(b[:cap(b)])
		d.flush(t)
		d.zeros(t, 0, 1)
	}
}

// TestMemories is of P7.3: memories with pages of the same numbers, and pages of one memory, don't meet.
func TestMemories(t *testing.T) {
	places := []int{0, 1, 2, 255, 256, 65535, 65536, math.MaxInt32, math.MaxInt32 + 1, math.MaxInt}
	for _, frames := range []int{1, 3, 64} {
		d := made(t, frames, 100)
		for i, mem := range places {
			for j, page := range places {
				d.write(t, mem, page, 0, byte(i+1), byte(j+1))
			}
		}
		for i, mem := range places {
			for j, page := range places {
				d.reads(t, mem, page, 0, byte(i+1), byte(j+1), 0)
			}
		}
		d.flush(t)
		if d.store.Used() != 100 {
			t.Errorf("Used %d", d.store.Used())
		}
		d.works(t)
	}
}

// TestNilPager is of P7.1 and P7.2: that there is none is told first of all.
func TestNilPager(t *testing.T) {
	var p *pager.Pager
	for _, n := range append(numbers, 0, 1) {
		if b, e := p.Read(n, n, n, n); b != nil || e != api.ErrState {
			t.Errorf("Read: %v, %d", b, e)
		}
		if e := p.Write(n, n, n, []byte{1}); e != api.ErrState {
			t.Errorf("Write: %d", e)
		}
		if e := p.Drop(n); e != api.ErrState {
			t.Errorf("Drop: %d", e)
		}
	}
	if p.Flush() != api.ErrState || p.Close() != api.ErrState || p.Fault() != api.ErrState || p.Size() != 0 || p.Resident() != 0 {
		t.Errorf("Flush %d, Close %d, Fault %d, Size %d, Resident %d", p.Flush(), p.Close(), p.Fault(), p.Size(), p.Resident())
	}
}

// TestPagersApart is of P7.1 and P7.3: two pagers in one arena, over one store, don't meet; if one breaks, the other one goes on.
func TestPagersApart(t *testing.T) {
	a, s := space(t, 64), blocks(t, 16, 5)
	p, e := pager.New(a, s, 1)
	other, oe := pager.New(a, s, 2)
	if e != api.OK || oe != api.OK {
		t.Fatalf("New: %d, %d", e, oe)
	}
	one, two := device{p, a, s}, device{other, a, s}
	for i := range 2 {
		one.write(t, 0, i, 0, byte(1+i))
		two.write(t, 0, i, 0, byte(11+i))
	}
	two.drop(t, 1)
	two.write(t, 0, 2, 0, 13)
	for i := range 2 {
		one.reads(t, 0, i, 0, byte(1+i))
		two.reads(t, 0, i, 0, byte(11+i))
	}
	one.zeros(t, 0, 2)
	s.FailAt(s.Ops())
	if e := one.Write(0, 0, 0, []byte{1}); e != api.ErrFault || one.Fault() != api.ErrFault {
		t.Errorf("Write: %d, Fault %d", e, one.Fault())
	}
	s.FailAt(-1)
	one.ended(t)
	if e := one.Close(); e != api.OK || a.Live() != 32 {
		t.Errorf("Close: %d, Live %d", e, a.Live())
	}
	for i := range 3 {
		two.reads(t, 0, i, 0, byte(11+i))
	}
	two.works(t)
}
