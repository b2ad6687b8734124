package pager_test

import (
	"bytes"
	"strings"
	"testing"

	"grommet/api"
	"grommet/pager"
)

// play does what a row of steps tells: w3 writes page 3 (its number, and 1, to its first byte), r3 reads it, x3 reads beyond it, d3 drops memory 3, f flushes; page 10m+n is page n of memory m.
func (d device) play(t *testing.T, steps string) {
	t.Helper()
	for _, s := range strings.Fields(steps) {
		n := 0
		for _, c := range s[1:] {
			n = 10*n + int(c-'0')
		}
		switch s[0] {
		case 'w':
			d.write(t, n/10, n%10, 0, byte(n+1))
		case 'r':
			if _, e := d.Read(n/10, n%10, 0, 1); e != api.OK {
				t.Fatalf("%s: %d", s, e)
			}
		case 'x':
			if _, e := d.Read(n/10, n%10, 16, 1); e != api.ErrRange {
				t.Fatalf("%s: %d", s, e)
			}
		case 'd':
			d.drop(t, n)
		case 'f':
			d.flush(t)
		}
	}
}

// firsts is the digits of the pages whose bytes these are, one behind the other, by the first byte of each 16.
func firsts(b []byte) string {
	var s []byte
	for i := 0; i < len(b); i += 16 {
		s = append(s, '0'+b[i]-1)
	}
	return string(s)
}

// TestLetGo is of P7.1 and P7.2: pages are let go as the chapter tells. Blocks are taken from 0 on, so they tell in which order pages were written to them; frames, in the arena one behind the other, tell which pages are left.
func TestLetGo(t *testing.T) {
	for _, c := range []struct {
		frames               int
		steps, saved, stands string
	}{
		{1, "w0", "", "0"},
		{1, "w0 w0 r0 r0 w0", "", "0"},
		{1, "w0 w1 w2 w3", "012", "3"},
		{1, "w0 r0 r1 w2 w3", "02", "3"},
		{2, "w0 w1", "", "01"},
		{2, "w0 w1 w2", "0", "21"},
		{2, "w1 w0 w2", "1", "20"},
		{2, "w0 w1 w0 w2", "0", "21"},
		{2, "w0 w1 r0 r0 w2", "0", "21"},
		{2, "w0 w1 w2 w3 w4 w5", "0123", "45"},
		// All were passed when 0 was let go; what was neither read nor written since goes next, from the frame behind.
		{3, "w0 w1 w2 w3 w4 w5 w6", "0123", "645"},
		{3, "w0 w1 w2 w3 w1 w4", "02", "314"},
		{3, "w0 w1 w2 w3 r1 w4", "02", "314"},
		{3, "w0 w1 w2 w3 r1 r1 w4", "02", "314"},
		{3, "w0 w1 w2 w3 w2 w4", "01", "342"},
		{3, "w0 w1 w2 w3 r1 w4 w5", "021", "354"},
		{3, "w0 w1 w2 w3 r1 w4 w5 w6", "0213", "654"},
		{3, "w0 w1 w2 w3 r1 w4 r1 w5", "023", "514"},
		{3, "w0 w1 w2 w3 r1 w4 r1 r3 w5", "023", "514"},
		{3, "w0 w1 w2 w3 r1 r2 w4", "01", "342"},
		{3, "w0 w1 w2 w3 r1 r2 r3 w4 w5", "012", "345"},
		{3, "w0 w1 w2 w3 r2 w4 w5 w6", "0123", "645"},
		{4, "w0 w1 w2 w3 w4 r2 w5 w6 r4 w7 w8", "01324", "8576"},
		// Neither to flush nor to be refused is to read or write.
		{2, "w0 w1 f w2", "01", "21"},
		{3, "w0 w1 w2 w3 f w4", "0312", "342"},
		{3, "w0 w1 w2 w3 x1 w4", "01", "342"},
		// A page that is read anew stands in the frame that was let go.
		{2, "w0 w1 w2 r0 w3", "012", "30"},
		{2, "w0 w1 w2 r0 w1 w3", "012", "13"},
		// Frames whose pages were dropped are taken first, the first one of them first; where the round goes on stays.
		{3, "w0 w10 w1 d1 w2", "", "021"},
		{3, "w0 w10 w1 d1 w2 w3", "0", "321"},
		{3, "w0 w10 w1 d1 w2 w3 w4", "02", "341"},
		{3, "w10 w0 w11 d1 w1 w2 w3", "1", "302"},
		{3, "w10 w0 w11 d1 w1 w2 w3 w4 w5", "102", "345"},
		{3, "w0 w1 w12 w2 d1 w3 w4", "01", "243"},
		{3, "w0 w1 w10 w2 w3 d1 w4 w5", "014", "235"},
	} {
		d := made(t, c.frames, 20)
		d.play(t, c.steps)
		frames, _ := d.arena.Bytes(0, 16*len(c.stands))
		var saved []byte
		for id := range d.store.Used() {
			b, _ := d.store.Read(id)
			saved = append(saved, b...)
		}
		if firsts(saved) != c.saved || firsts(frames) != c.stands {
			t.Errorf("%d frames, %s: blocks %s, frames %s, not %s, %s", c.frames, c.steps, firsts(saved), firsts(frames), c.saved, c.stands)
		}
	}
}

// TestUnchanged is of P7.1: a page that wasn't changed since it was read from its block isn't written again; one that was is written to the block that it has.
func TestUnchanged(t *testing.T) {
	d := made(t, 1, 3)
	d.play(t, "w0 w1")
	d.tells(t, 1, 1, 2) // Alloc, Write
	d.play(t, "w2")
	d.tells(t, 1, 2, 4)
	d.play(t, "r0")
	d.tells(t, 1, 3, 7) // and Read
	d.play(t, "r0 r0 r1 r0 r2")
	d.tells(t, 1, 3, 10)
	d.write(t, 0, 2, 15, 9)
	d.play(t, "r1")
	d.tells(t, 1, 3, 12) // Write, Read
	d.play(t, "r0 r2 r0")
	d.tells(t, 1, 3, 15)
	d.reads(t, 0, 2, 0, 3, 0, 0, 0, 0, 0, 0, 0, 0, 0, 0, 0, 0, 0, 0, 9)
	d.works(t)
}

// TestStaysInFrame is of P7.1: a page that stands in a frame is read and written there, without an operation.
func TestStaysInFrame(t *testing.T) {
	d := made(t, 3, 4)
	d.play(t, "w0 w1 w2")
	for range 5 {
		d.play(t, "r0 w1 r2 w0 r1 w2")
	}
	d.tells(t, 3, 0, 0)
	d.play(t, "w3")
	d.tells(t, 3, 1, 2)
	d.play(t, "r1 w2 r3 w1 r2 w3")
	d.tells(t, 3, 1, 2)
}

// TestZeroAgain is of P7.1: a page whose bytes are all 0 again, when it is let go, is given no block, and the one that it has is freed; a byte at either end is enough that it isn't all 0.
func TestZeroAgain(t *testing.T) {
	d := made(t, 1, 1)
	d.write(t, 0, 0, 3, 1)
	d.write(t, 0, 0, 3, 0)
	d.zeros(t, 0, 1)
	d.tells(t, 1, 0, 0)
	for _, at := range []int{0, 7, 15} {
		ops := d.store.Ops()
		d.write(t, 0, 0, at, 1)
		d.zeros(t, 0, 1)
		d.tells(t, 1, 1, ops+2)
		d.write(t, 0, 0, at, 0)
		d.tells(t, 1, 1, ops+3)
		d.zeros(t, 0, 1)
		d.tells(t, 1, 0, ops+4) // Free
		d.zeros(t, 0, 0)
		d.write(t, 0, 1, at, 2)
		d.zeros(t, 0, 0)
		d.reads(t, 0, 1, at, 2)
		d.write(t, 0, 1, at, 0)
		d.zeros(t, 0, 0)
		d.tells(t, 1, 0, ops+8)
	}
	d.works(t)
}

// TestZeroBetween is of P7.1: a page that was all 0 for a time, but isn't when it is let go, keeps its block.
func TestZeroBetween(t *testing.T) {
	d := made(t, 1, 2)
	d.write(t, 0, 0, 0, 5)
	d.zeros(t, 0, 1)
	d.write(t, 0, 0, 0, 0)
	d.write(t, 0, 0, 1, 6)
	d.zeros(t, 0, 1)
	d.tells(t, 1, 1, 4)
	d.reads(t, 0, 0, 0, 0, 6)
}

// TestBlockAgain is of P7.1: a block that was freed is had by the next page that needs one, and nothing of the old page is read there.
func TestBlockAgain(t *testing.T) {
	d := made(t, 1, 1)
	for i := range 10 {
		d.write(t, i%3, i, i, byte(i+1))
		d.zeros(t, 0, 99)
		d.reads(t, i%3, i, i, byte(i+1))
		if i%2 == 0 {
			d.write(t, i%3, i, i, 0)
		} else {
			d.drop(t, i%3)
		}
		d.zeros(t, 0, 99)
		d.zeros(t, i%3, i)
		if d.store.Used() != 0 {
			t.Errorf("Used %d", d.store.Used())
		}
	}
	d.works(t)
}

// TestDrop is of P7.1: behind it a memory's pages are all 0, wherever they stood, and have neither frames nor blocks; other memories' pages stay.
func TestDrop(t *testing.T) {
	d := made(t, 3, 9)
	// Of memory 1, page 0 is in a block alone, page 1 in a block and a frame, page 2 in a frame alone.
	d.play(t, "w0 w10 w1 w11 w2 w12 r1 r11")
	d.tells(t, 3, 5, 12)
	d.drop(t, 1)
	d.tells(t, 1, 3, 14)
	for page := range 3 {
		d.zeros(t, 1, page)
	}
	d.tells(t, 3, 3, 14)
	for page := range 3 {
		d.reads(t, 0, page, 0, byte(page+1))
		d.zeros(t, 1, page)
	}
	d.drop(t, 0)
	for page := range 3 {
		d.zeros(t, 0, page)
		d.zeros(t, 1, page)
	}
	if d.store.Used() != 0 {
		t.Errorf("Used %d", d.store.Used())
	}
	d.works(t)
}

// TestDropFrames is of P7.1: pages that stand in frames alone are dropped without an operation, and aren't written any more.
func TestDropFrames(t *testing.T) {
	d := made(t, 4, 4)
	d.play(t, "w0 w10 w1 w11")
	d.drop(t, 0)
	d.tells(t, 2, 0, 0)
	d.flush(t)
	d.tells(t, 2, 2, 4)
	d.zeros(t, 0, 0)
	d.zeros(t, 0, 1)
	d.tells(t, 4, 2, 4)
	d.reads(t, 1, 0, 0, 11)
	d.reads(t, 1, 1, 0, 12)
}

// TestDropBlocks is of P7.1: each block of the memory's pages is freed, by an operation each, that of a page which stands in a frame, too, changed or not.
func TestDropBlocks(t *testing.T) {
	for _, last := range []string{"", "r0", "w0", "w0 f", "r0 r1", "w1 w2"} {
		d := made(t, 2, 9)
		d.play(t, "w0 w1 w2 w3 f "+last)
		d.flush(t)
		d.tells(t, 2, 4, d.store.Ops())
		ops := d.store.Ops()
		d.drop(t, 0)
		d.tells(t, 0, 0, ops+4)
		d.drop(t, 0)
		d.tells(t, 0, 0, ops+4)
		for page := range 4 {
			d.zeros(t, 0, page)
		}
		d.tells(t, 2, 0, ops+4)
	}
}

// TestDropNothing is of P7.1: a memory without pages is dropped, without an operation.
func TestDropNothing(t *testing.T) {
	d := made(t, 1, 2)
	d.drop(t, 0)
	d.play(t, "w0 w1")
	for _, mem := range append([]int{1, 2, 65536}, numbers[3:]...) {
		d.drop(t, mem)
	}
	d.tells(t, 1, 1, 2)
	d.reads(t, 0, 0, 0, 1)
}

// TestDropThenWrite is of P7.1 and P7.3: what is written behind it is read, and stays.
func TestDropThenWrite(t *testing.T) {
	d := made(t, 1, 4)
	d.play(t, "w0 w1 w2")
	d.drop(t, 0)
	d.write(t, 0, 1, 5, 7)
	d.write(t, 0, 2, 5, 8)
	d.zeros(t, 0, 0)
	d.reads(t, 0, 1, 0, 0, 0, 0, 0, 0, 7)
	d.reads(t, 0, 2, 0, 0, 0, 0, 0, 0, 8)
}

// TestFlush is of P7.2: each frame's page is written, in order, and stays; behind it the block is as the page is.
func TestFlush(t *testing.T) {
	d := made(t, 3, 3)
	d.flush(t)
	d.tells(t, 0, 0, 0)
	d.play(t, "w5 w3")
	d.flush(t)
	d.tells(t, 2, 2, 4)
	for id, want := range []byte{6, 4} {
		if b, e := d.store.Read(id); !bytes.Equal(b, append([]byte{want}, make([]byte, 15)...)) || e != api.OK {
			t.Errorf("Read(%d): %v, %d", id, b, e)
		}
	}
	d.tells(t, 2, 2, 6)
	d.play(t, "r5 r3 r4")
	d.tells(t, 3, 2, 6)
	d.reads(t, 0, 5, 0, 6)
	d.works(t)
}

// TestFlushAgain is of P7.2: what was written by it isn't written again, if it wasn't changed since, neither by it nor where it is let go.
func TestFlushAgain(t *testing.T) {
	d := made(t, 2, 4)
	d.play(t, "w0 w1")
	for range 3 {
		d.flush(t)
		d.tells(t, 2, 2, 4)
		d.play(t, "r0 r1")
	}
	d.play(t, "r2 r3")
	d.tells(t, 2, 2, 4)
	d.play(t, "r0 r1")
	d.tells(t, 2, 2, 6)
	d.flush(t)
	d.tells(t, 2, 2, 6)
	d.write(t, 0, 1, 3, 1)
	d.flush(t)
	d.tells(t, 2, 2, 7)
	d.flush(t)
	d.tells(t, 2, 2, 7)
}

// TestFlushZero is of P7.2: a page that is all 0 has no block behind it, and stays in its frame.
func TestFlushZero(t *testing.T) {
	d := made(t, 2, 1)
	d.play(t, "w0 r1")
	d.flush(t)
	d.tells(t, 2, 1, 2)
	d.write(t, 0, 0, 0, 0)
	d.write(t, 0, 1, 0, 0)
	d.flush(t)
	d.tells(t, 2, 0, 3)
	d.flush(t)
	d.tells(t, 2, 0, 3)
	d.write(t, 0, 0, 0, 4)
	d.flush(t)
	d.tells(t, 2, 1, 5)
	d.reads(t, 0, 0, 0, 4)
}

// TestReadAnew is of P7.2 and P7.3: behind Flush, and letting all go, pages are read anew from their blocks.
func TestReadAnew(t *testing.T) {
	for _, frames := range []int{1, 2, 5, 64} {
		d := made(t, frames, 64)
		for page := range 64 {
			d.write(t, 0, page, page%16, byte(page+1))
		}
		d.flush(t)
		if d.store.Used() != 64 {
			t.Errorf("Used %d", d.store.Used())
		}
		for page := range 64 {
			d.zeros(t, 1, page)
		}
		ops := d.store.Ops()
		for page := range 64 {
			d.reads(t, 0, page, page%16, byte(page+1))
		}
		d.tells(t, frames, 64, ops+64)
	}
}

// TestClose is of P7.2: frames are given back to the arena, and can be taken again; nothing is answered any more, and there is no operation: blocks stay as they are.
func TestClose(t *testing.T) {
	for _, frames := range []int{1, 3, 64} {
		d := made(t, frames, 99)
		for page := range frames + 2 {
			d.write(t, 0, page, 0, 1)
		}
		d.tells(t, frames, 2, 4)
		if d.arena.Live() != 16*frames {
			t.Errorf("Live %d", d.arena.Live())
		}
		if e := d.Close(); e != api.OK || d.arena.Live() != 0 {
			t.Errorf("Close: %d, Live %d", e, d.arena.Live())
		}
		d.tells(t, 0, 2, 4)
		d.works(t)
		d.ended(t)
		again := blocks(t, 16, 1)
		p, e := pager.New(d.arena, again, frames)
		if e != api.OK {
			t.Fatalf("New: %d", e)
		}
		// What was given back already isn't given back once more, though others have it now.
		for range 2 {
			if e := d.Close(); e != api.ErrState || d.arena.Live() != 16*frames {
				t.Errorf("Close of one that is closed: %d, Live %d", e, d.arena.Live())
			}
		}
		device{p, d.arena, again}.zeros(t, 0, 0)
	}
}

// TestCloseFresh is of P7.2: one of which no page was wanted is closed.
func TestCloseFresh(t *testing.T) {
	d := made(t, 2, 0)
	if e := d.Close(); e != api.OK || d.arena.Live() != 0 {
		t.Errorf("Close: %d, Live %d", e, d.arena.Live())
	}
	d.tells(t, 0, 0, 0)
	d.works(t)
	d.ended(t)
}
