package flash_test

import (
	"bytes"
	"math"
	"reflect"
	"slices"
	"testing"

	"grommet/api"
	"grommet/flash"
	"grommet/leb"
)

// cursor is a cursor of a part that is there.
func cursor(t *testing.T, f *flash.Flash, from, to int) *flash.Cursor {
	t.Helper()
	c, e := f.Cursor(from, to)
	if c == nil || e != api.OK {
		t.Fatalf("Cursor(%d, %d): %v, %d", from, to, c, e)
	}
	return c
}

// stands tells of a cursor that isn't at a place, with so many bytes left, its flash with so many reads.
func stands(t *testing.T, name string, f *flash.Flash, c *flash.Cursor, at, left, reads int) {
	t.Helper()
	if c.At() != at || c.Left() != left || f.Reads() != reads {
		t.Errorf("%s: At %d, Left %d, Reads %d, not %d, %d, %d", name, c.At(), c.Left(), f.Reads(), at, left, reads)
	}
}

// TestCursorParts is of P2.2: which parts there are, and that a cursor begins at their beginning, without a read.
func TestCursorParts(t *testing.T) {
	const n = 4
	f := made(t, counting(n))
	f.FailAt(0)
	places := []int{math.MinInt, -1, 0, 1, 2, 3, 4, 5, math.MaxInt}
	for _, from := range places {
		for _, to := range places {
			if from >= 0 && from <= to && to <= n {
				stands(t, "Cursor", f, cursor(t, f, from, to), from, to-from, 0)
			} else if c, e := f.Cursor(from, to); c != nil || e != api.ErrRange {
				t.Errorf("Cursor(%d, %d): %v, %d", from, to, c, e)
			}
		}
	}
	empty := made(t, nil)
	stands(t, "of no bytes", empty, cursor(t, empty, 0, 0), 0, 0, 0)
}

// TestTake is of P2.2: bytes are read one behind the other, up to the part's end.
func TestTake(t *testing.T) {
	f := made(t, counting(8))
	c := cursor(t, f, 2, 7)
	if b, e := c.Take(2); string(b) != "\x02\x03" || e != api.OK {
		t.Errorf("Take(2): %v, %d", b, e)
	}
	stands(t, "Take(2)", f, c, 4, 3, 1)
	if b, e := c.Byte(); b != 4 || e != api.OK {
		t.Errorf("Byte: %d, %d", b, e)
	}
	stands(t, "Byte", f, c, 5, 2, 2)
	for _, n := range []int{3, 4, math.MaxInt} {
		if b, e := c.Take(n); b != nil || e != api.ErrShort {
			t.Errorf("Take(%d): %v, %d", n, b, e)
		}
	}
	for _, n := range []int{-1, -5, math.MinInt} {
		if b, e := c.Take(n); b != nil || e != api.ErrArg {
			t.Errorf("Take(%d): %v, %d", n, b, e)
		}
	}
	stands(t, "refused", f, c, 5, 2, 2)
	if b, e := c.Take(0); len(b) != 0 || e != api.OK {
		t.Errorf("Take(0): %v, %d", b, e)
	}
	stands(t, "Take(0)", f, c, 5, 2, 3)
	if b, e := c.Take(2); string(b) != "\x05\x06" || e != api.OK {
		t.Errorf("Take(2): %v, %d", b, e)
	}
	stands(t, "Take(2)", f, c, 7, 0, 4)
}

// TestAtTheEnd is of P2.2 and P2.3: at its part's end a cursor has nothing left, though its flash has more.
func TestAtTheEnd(t *testing.T) {
	f := made(t, counting(8))
	c := cursor(t, f, 3, 3)
	if b, e := c.Byte(); b != 0 || e != api.ErrShort {
		t.Errorf("Byte: %d, %d", b, e)
	}
	if b, e := c.Take(1); b != nil || e != api.ErrShort {
		t.Errorf("Take(1): %v, %d", b, e)
	}
	if n, e := c.Unsigned(7); n != 0 || e != api.ErrShort {
		t.Errorf("Unsigned: %d, %d", n, e)
	}
	if n, e := c.Signed(7); n != 0 || e != api.ErrShort {
		t.Errorf("Signed: %d, %d", n, e)
	}
	if p, e := c.Part(1); p != nil || e != api.ErrShort {
		t.Errorf("Part(1): %v, %d", p, e)
	}
	stands(t, "short", f, c, 3, 0, 0)
	if b, e := c.Take(0); len(b) != 0 || e != api.OK {
		t.Errorf("Take(0): %v, %d", b, e)
	}
	p, e := c.Part(0)
	if e != api.OK {
		t.Errorf("Part(0): %d", e)
	}
	stands(t, "Part(0)", f, p, 3, 0, 1)
	if c.Go(3) != api.OK || c.Go(2) != api.ErrRange || c.Go(4) != api.ErrRange {
		t.Error("Go")
	}
	stands(t, "Go", f, c, 3, 0, 1)
}

// TestCursorFault is of P2.2: a read that fails is counted, and the cursor stays where it was; what is short is told ahead of it, and isn't counted.
func TestCursorFault(t *testing.T) {
	f := made(t, counting(5))
	c := cursor(t, f, 0, 4)
	f.FailAt(1)
	c.Byte()
	if b, e := c.Byte(); b != 0 || e != api.ErrFault {
		t.Errorf("Byte: %d, %d", b, e)
	}
	stands(t, "Byte", f, c, 1, 3, 2)
	if b, e := c.Take(3); b != nil || e != api.ErrFault {
		t.Errorf("Take: %v, %d", b, e)
	}
	stands(t, "Take", f, c, 1, 3, 3)
	if _, e := c.Take(4); e != api.ErrShort {
		t.Errorf("Take(4): %d", e)
	}
	if _, e := c.Take(-1); e != api.ErrArg {
		t.Errorf("Take(-1): %d", e)
	}
	stands(t, "refused", f, c, 1, 3, 3)
	f.FailAt(-1)
	if b, e := c.Take(3); string(b) != "\x01\x02\x03" || e != api.OK {
		t.Errorf("Take: %v, %d", b, e)
	}
	stands(t, "mended", f, c, 4, 0, 4)
}

// TestPart is of P2.2 and P2.3: a part is cut off without a read, and is a cursor of its own, which keeps to it.
func TestPart(t *testing.T) {
	f := made(t, counting(9))
	c := cursor(t, f, 1, 8)
	f.FailAt(0)
	c.Go(2)
	p, e := c.Part(3)
	if p == nil || e != api.OK {
		t.Fatalf("Part(3): %v, %d", p, e)
	}
	f.FailAt(-1)
	stands(t, "what is left", f, c, 5, 3, 0)
	stands(t, "the part", f, p, 2, 3, 0)
	if p.Go(1) != api.ErrRange || p.Go(6) != api.ErrRange || p.Go(5) != api.OK || p.Go(2) != api.OK {
		t.Error("Go")
	}
	if b, e := p.Take(4); b != nil || e != api.ErrShort {
		t.Errorf("Take(4): %v, %d", b, e)
	}
	if b, e := p.Take(3); string(b) != "\x02\x03\x04" || e != api.OK {
		t.Errorf("Take(3): %v, %d", b, e)
	}
	stands(t, "what is left", f, c, 5, 3, 1)
	if b, e := c.Byte(); b != 5 || e != api.OK {
		t.Errorf("Byte: %d, %d", b, e)
	}
	stands(t, "the part", f, p, 5, 0, 2)
	for n, want := range map[int]api.Errno{3: api.ErrShort, math.MaxInt: api.ErrShort, -1: api.ErrArg, math.MinInt: api.ErrArg} {
		if p, e := c.Part(n); p != nil || e != want {
			t.Errorf("Part(%d): %v, %d", n, p, e)
		}
	}
	if c.Go(1) != api.OK { // what was cut off is still its own
		t.Error("Go(1)")
	}
	stands(t, "refused", f, c, 1, 7, 2)
}

// TestGo is of P2.2: places of the flash that lie in the part, its end too.
func TestGo(t *testing.T) {
	f := made(t, counting(6))
	c := cursor(t, f, 2, 4)
	for _, at := range []int{4, 3, 2} {
		if e := c.Go(at); e != api.OK {
			t.Errorf("Go(%d): %d", at, e)
		}
		stands(t, "Go", f, c, at, 4-at, 0)
	}
	c.Go(3)
	for _, at := range []int{math.MinInt, -1, 0, 1, 5, 6, 7, math.MaxInt} {
		if e := c.Go(at); e != api.ErrRange {
			t.Errorf("Go(%d): %d", at, e)
		}
		stands(t, "refused", f, c, 3, 1, 0)
	}
}

// TestNumbers is of P2.2: numbers, one behind the other, byte by byte.
func TestNumbers(t *testing.T) {
	b := leb.PutSigned(leb.Put(leb.PutSigned(leb.Put(nil, 624485), math.MinInt64), math.MaxUint64), -1)
	f := made(t, b)
	c := cursor(t, f, 0, len(b))
	if n, e := c.Unsigned(20); n != 624485 || e != api.OK {
		t.Errorf("%d, %d", n, e)
	}
	stands(t, "20 bits", f, c, 3, len(b)-3, 3)
	if n, e := c.Signed(64); n != math.MinInt64 || e != api.OK {
		t.Errorf("%d, %d", n, e)
	}
	stands(t, "64 bits with a sign", f, c, 13, len(b)-13, 13)
	if n, e := c.Unsigned(64); n != math.MaxUint64 || e != api.OK {
		t.Errorf("%d, %d", n, e)
	}
	stands(t, "64 bits", f, c, 23, 1, 23)
	if n, e := c.Signed(1); n != -1 || e != api.OK {
		t.Errorf("%d, %d", n, e)
	}
	stands(t, "1 bit", f, c, 24, 0, 24)
}

// TestNumberErrors is of P2.2: each error of a number, how many reads it takes, and that the cursor stays where it was.
func TestNumberErrors(t *testing.T) {
	for _, c := range []struct {
		name  string
		b     string
		to    int // where the part ends
		fail  int // from which read on they fail
		bits  int
		e     api.Errno
		reads int
	}{
		{"bits 0", "\x00", 1, -1, 0, api.ErrArg, 0},
		{"bits 65", "\x00", 1, -1, 65, api.ErrArg, 0},
		{"bits below 0", "\x00", 1, 0, math.MinInt, api.ErrArg, 0},
		{"bits, ahead of short", "", 0, 0, math.MaxInt, api.ErrArg, 0},
		{"no byte", "\x00", 0, -1, 32, api.ErrShort, 0},
		{"short at the flash's end", "\x80\x80", 2, -1, 32, api.ErrShort, 2},
		{"short at the part's end", "\x80\x80\x00", 2, -1, 32, api.ErrShort, 2},
		{"short, ahead of a fault behind", "\x80\x80\x00", 2, 2, 32, api.ErrShort, 2},
		{"fault of the first", "\x80\x80\x00", 3, 0, 32, api.ErrFault, 1},
		{"fault of the second", "\x80\x80\x00", 3, 1, 32, api.ErrFault, 2},
		{"fault of the last", "\x80\x80\x00", 3, 2, 32, api.ErrFault, 3},
		{"fault, ahead of form", "\x80\x80\x80\x80\x80", 5, 4, 32, api.ErrFault, 5},
		{"form", "\x80\x80\x80\x80\x80\x00", 6, 5, 32, api.ErrForm, 5},
		{"form at the part's end", "\xff\x7e", 2, -1, 8, api.ErrForm, 2},
		{"form of 1 bit", "\x40", 1, -1, 1, api.ErrForm, 1},
		{"form of 7 bits", "\x80\x00", 2, -1, 7, api.ErrForm, 1},
		{"form of 64 bits", "\xff\xff\xff\xff\xff\xff\xff\xff\xff\xff\x00", 11, -1, 64, api.ErrForm, 10},
	} {
		for _, sign := range []bool{false, true} {
			f := made(t, []byte(c.b))
			cur := cursor(t, f, 0, c.to)
			f.FailAt(c.fail)
			n, e := readNumber(cur, c.bits, sign)
			if n != 0 || e != c.e {
				t.Errorf("%s: %d, %d", c.name, n, e)
			}
			stands(t, c.name, f, cur, 0, c.to, c.reads)
		}
	}
}

// readNumber reads a number with a sign, or without one, as a word.
func readNumber(c *flash.Cursor, bits int, sign bool) (uint64, api.Errno) {
	if sign {
		n, e := c.Signed(bits)
		return uint64(n), e
	}
	return c.Unsigned(bits)
}

// TestNumbersAsLeb is of P2.2 and P2.3: of every part of bytes, a cursor reads just the number that chapter 1 tells of that part alone, and reads no more bytes than it has.
func TestNumbersAsLeb(t *testing.T) {
	b := []byte("\x05\x80\x00\xff\x7f\xc0\x00\x80\x80\x80\x80\x80\x80\x80\x80\x80\x01\xff\xff\xff\xff\x0f\xff\xff\xff\xff\x7f\x80\x80\x80\x80\x78\xff\xff\xff\xff\xff\xff\xff\xff\xff\xff\x80")
	for from := range len(b) + 1 {
		for to := from; to <= len(b); to++ {
			for bits := -1; bits <= 66; bits++ {
				f := made(t, b)
				un, us, ue := leb.Unsigned(b[from:to], bits)
				c := cursor(t, f, from, to)
				if n, e := c.Unsigned(bits); n != un || e != ue || c.At() != from+us || f.Reads() > to-from {
					t.Fatalf("Unsigned(%d) of %v: %d, %d, At %d", bits, b[from:to], n, e, c.At())
				}
				c.Go(from)
				reads := f.Reads()
				sn, ss, se := leb.Signed(b[from:to], bits)
				if n, e := c.Signed(bits); n != sn || e != se || c.At() != from+ss || f.Reads()-reads > to-from {
					t.Fatalf("Signed(%d) of %v: %d, %d, At %d", bits, b[from:to], n, e, c.At())
				}
			}
		}
	}
}

// TestNilCursor is of P2.2.
func TestNilCursor(t *testing.T) {
	var c *flash.Cursor
	if c.At() != 0 || c.Left() != 0 {
		t.Errorf("At %d, Left %d", c.At(), c.Left())
	}
	if b, e := c.Byte(); b != 0 || e != api.ErrState {
		t.Errorf("Byte: %d, %d", b, e)
	}
	for _, n := range []int{math.MinInt, -1, 0, 1, 65, math.MaxInt} {
		if b, e := c.Take(n); b != nil || e != api.ErrState {
			t.Errorf("Take(%d): %v, %d", n, b, e)
		}
		if x, e := c.Unsigned(n); x != 0 || e != api.ErrState {
			t.Errorf("Unsigned(%d): %d, %d", n, x, e)
		}
		if x, e := c.Signed(n); x != 0 || e != api.ErrState {
			t.Errorf("Signed(%d): %d, %d", n, x, e)
		}
		if p, e := c.Part(n); p != nil || e != api.ErrState {
			t.Errorf("Part(%d): %v, %d", n, p, e)
		}
		if e := c.Go(n); e != api.ErrState {
			t.Errorf("Go(%d): %d", n, e)
		}
	}
}

// TestCursorCalls is of P2.3: a cursor has the calls of its chapter alone, none by which its flash hands on what lies beyond the part.
func TestCursorCalls(t *testing.T) {
	var names []string
	for i := range reflect.TypeFor[*flash.Cursor]().NumMethod() {
		names = append(names, reflect.TypeFor[*flash.Cursor]().Method(i).Name)
	}
	if want := []string{"At", "Byte", "Go", "Left", "Part", "Signed", "Take", "Unsigned"}; !slices.Equal(names, want) {
		t.Errorf("%v", names)
	}
}

// TestWithinItsPart is of P2.3: whatever is done with a cursor, and with parts of it, it stands in its part, and what it takes is of there.
func TestWithinItsPart(t *testing.T) {
	const size, from, to = 40, 7, 29
	all := counting(size)
	f := made(t, all)
	c, low, high := cursor(t, f, from, to), from, to
	seed := uint32(1)
	next := func(n int) int {
		seed = seed*1664525 + 1013904223
		return int(seed>>8) % n
	}
	for range 20000 {
		at := c.At()
		switch next(5) {
		case 0:
			n := next(12) - 1
			if b, e := c.Take(n); e == api.OK && !bytes.Equal(b, all[at:at+n]) {
				t.Fatalf("Take(%d) at %d: %v", n, at, b)
			}
		case 1:
			if b, e := c.Byte(); e == api.OK && b != all[at] {
				t.Fatalf("Byte at %d: %d", at, b)
			}
		case 2:
			to := next(size+4) - 2
			if e := c.Go(to); (e == api.OK) != (to >= low && to <= high) {
				t.Fatalf("Go(%d) in %d to %d: %d", to, low, high, e)
			}
		case 3:
			n := next(12) - 1
			if p, e := c.Part(n); e == api.OK {
				c, low, high = p, at, at+n
			}
		case 4:
			if next(8) == 0 {
				c, low, high = cursor(t, f, from, to), from, to
			}
		}
		if c.At() < low || c.Left() != high-c.At() || c.Left() < 0 {
			t.Fatalf("At %d, Left %d, in %d to %d", c.At(), c.Left(), low, high)
		}
	}
}
