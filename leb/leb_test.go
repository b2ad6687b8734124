package leb_test

import (
	"bytes"
	"math"
	"math/big"
	"math/bits"
	"slices"
	"testing"

	"grommet/api"
	"grommet/leb"
)

// oracle is what chapter 1 tells of the number that b begins with. It holds the number against the least and the greatest one of so many bits, instead of looking at the bits beyond.
func oracle(b []byte, width int, signed bool) (*big.Int, int, api.Errno) {
	none := new(big.Int)
	if width < 1 || width > 64 {
		return none, 0, api.ErrArg
	}
	most := (width + 6) / 7
	end := slices.IndexFunc(b, func(c byte) bool { return c < 128 })
	if end < 0 || end >= most {
		if len(b) < most {
			return none, 0, api.ErrShort
		}
		return none, 0, api.ErrForm
	}
	n := value(b[:end+1], signed)
	least, beyond := new(big.Int), new(big.Int).Lsh(big.NewInt(1), uint(width))
	if signed {
		beyond.Rsh(beyond, 1)
		least.Neg(beyond)
	}
	if n.Cmp(least) < 0 || n.Cmp(beyond) >= 0 {
		return none, 0, api.ErrForm
	}
	return n, end + 1, api.OK
}

// value is the number that all of b is, however great.
func value(b []byte, signed bool) *big.Int {
	n := new(big.Int)
	for _, c := range slices.Backward(b) {
		n.Lsh(n, 7)
		n.Or(n, big.NewInt(int64(c%128)))
	}
	if signed && b[len(b)-1]&64 != 0 {
		n.Sub(n, new(big.Int).Lsh(big.NewInt(1), uint(7*len(b))))
	}
	return n
}

// hold holds Unsigned and Signed of b against the oracle.
func hold(t *testing.T, b []byte, width int) {
	t.Helper()
	was := bytes.Clone(b)
	want, size, e := oracle(b, width, false)
	if n, s, err := leb.Unsigned(b, width); n != want.Uint64() || s != size || err != e {
		t.Fatalf("Unsigned(%v, %d): %d, %d, %d, not %d, %d, %d", b, width, n, s, err, want, size, e)
	}
	want, size, e = oracle(b, width, true)
	if n, s, err := leb.Signed(b, width); n != want.Int64() || s != size || err != e {
		t.Fatalf("Signed(%v, %d): %d, %d, %d, not %d, %d, %d", b, width, n, s, err, want, size, e)
	}
	if !bytes.Equal(was, b) {
		t.Fatalf("%v is now %v", was, b)
	}
}

// TestReadAllWidths is of P1.1: every last byte behind so many others, of each width.
func TestReadAllWidths(t *testing.T) {
	fillers := []byte{0x80, 0xff, 0xaa}
	for width := 1; width <= 64; width++ {
		for before := 0; before <= 11; before++ {
			for _, filler := range fillers {
				b := bytes.Repeat([]byte{filler}, before)
				hold(t, b, width)
				for last := 0; last < 256; last++ {
					hold(t, append(b[:before:before], byte(last)), width)
					hold(t, append(b[:before:before], byte(last), 1, 2), width)
				}
			}
		}
	}
}

// TestReadAllPairs is of P1.1: all two bytes, of the widths at which their bits begin to lie beyond, and end to.
func TestReadAllPairs(t *testing.T) {
	for _, width := range []int{1, 6, 7, 8, 13, 14, 15} {
		for first := 0; first < 256; first++ {
			for second := 0; second < 256; second++ {
				hold(t, []byte{byte(first), byte(second)}, width)
			}
		}
	}
}

// TestReadWrongBits is of P1.1: bits that may not be, which are told first of all.
func TestReadWrongBits(t *testing.T) {
	for _, width := range []int{math.MinInt, -64, -1, 0, 65, 128, math.MaxInt} {
		for _, b := range [][]byte{nil, {0}, {128}, bytes.Repeat([]byte{255}, 20)} {
			if n, size, e := leb.Unsigned(b, width); n != 0 || size != 0 || e != api.ErrArg {
				t.Errorf("Unsigned(%v, %d): %d, %d, %d", b, width, n, size, e)
			}
			if n, size, e := leb.Signed(b, width); n != 0 || size != 0 || e != api.ErrArg {
				t.Errorf("Signed(%v, %d): %d, %d, %d", b, width, n, size, e)
			}
		}
	}
}

// TestReadUnsigned is of P1.1: numbers without a sign, written out.
func TestReadUnsigned(t *testing.T) {
	for _, c := range []struct {
		b     string
		width int
		n     uint64
		size  int
		e     api.Errno
	}{
		{"\xe5\x8e\x26", 32, 624485, 3, api.OK},
		{"\xe5\x8e\x26\xff", 20, 624485, 3, api.OK},
		{"\xe5\x8e\x26", 19, 0, 0, api.ErrForm},
		{"", 1, 0, 0, api.ErrShort},
		{"\x00", 1, 0, 1, api.OK},
		{"\x01", 1, 1, 1, api.OK},
		{"\x02", 1, 0, 0, api.ErrForm},
		{"\x80", 1, 0, 0, api.ErrForm},
		{"\x80\x00", 1, 0, 0, api.ErrForm},
		{"\x7f", 7, 127, 1, api.OK},
		{"\x80", 7, 0, 0, api.ErrForm},
		{"\x80", 8, 0, 0, api.ErrShort},
		{"\xff\x01", 8, 255, 2, api.OK},
		{"\xff\x02", 8, 0, 0, api.ErrForm},
		{"\x80\x80\x80\x80\x00", 32, 0, 5, api.OK},
		{"\xff\xff\xff\xff\x0f", 32, math.MaxUint32, 5, api.OK},
		{"\xff\xff\xff\xff\x10", 32, 0, 0, api.ErrForm},
		{"\xff\xff\xff\xff\x8f\x00", 32, 0, 0, api.ErrForm},
		{"\xff\xff\xff\xff", 32, 0, 0, api.ErrShort},
		{"\xff\xff\xff\xff\xff\xff\xff\xff\x7f", 63, math.MaxInt64, 9, api.OK},
		{"\xff\xff\xff\xff\xff\xff\xff\xff\xff\x00", 63, 0, 0, api.ErrForm},
		{"\xff\xff\xff\xff\xff\xff\xff\xff\xff\x01", 64, math.MaxUint64, 10, api.OK},
		{"\xff\xff\xff\xff\xff\xff\xff\xff\xff\x02", 64, 0, 0, api.ErrForm},
		{"\xff\xff\xff\xff\xff\xff\xff\xff\xff", 64, 0, 0, api.ErrShort},
	} {
		if n, size, e := leb.Unsigned([]byte(c.b), c.width); n != c.n || size != c.size || e != c.e {
			t.Errorf("Unsigned(%q, %d): %d, %d, %d", c.b, c.width, n, size, e)
		}
	}
}

// TestReadSigned is of P1.1: numbers with a sign, written out.
func TestReadSigned(t *testing.T) {
	for _, c := range []struct {
		b     string
		width int
		n     int64
		size  int
		e     api.Errno
	}{
		{"\x80\x7f", 32, -128, 2, api.OK},
		{"", 64, 0, 0, api.ErrShort},
		{"\x00", 1, 0, 1, api.OK},
		{"\x7f", 1, -1, 1, api.OK},
		{"\x01", 1, 0, 0, api.ErrForm},
		{"\x3f", 7, 63, 1, api.OK},
		{"\x40", 7, -64, 1, api.OK},
		{"\xc0", 7, 0, 0, api.ErrForm},
		{"\xc0", 8, 0, 0, api.ErrShort},
		{"\xff\x7f", 8, -1, 2, api.OK},
		{"\xff\x00", 8, 127, 2, api.OK},
		{"\xff\x01", 8, 0, 0, api.ErrForm},
		{"\xff\xff\xff\xff\x07", 32, math.MaxInt32, 5, api.OK},
		{"\xff\xff\xff\xff\x0f", 32, 0, 0, api.ErrForm},
		{"\x80\x80\x80\x80\x78", 32, math.MinInt32, 5, api.OK},
		{"\x80\x80\x80\x80\x70", 32, 0, 0, api.ErrForm},
		{"\xff\xff\xff\xff\xff\xff\xff\xff\x3f", 63, math.MaxInt64 >> 1, 9, api.OK},
		{"\x80\x80\x80\x80\x80\x80\x80\x80\x40", 63, math.MinInt64 >> 1, 9, api.OK},
		{"\xff\xff\xff\xff\xff\xff\xff\xff\xff\x00", 64, math.MaxInt64, 10, api.OK},
		{"\x80\x80\x80\x80\x80\x80\x80\x80\x80\x7f", 64, math.MinInt64, 10, api.OK},
		{"\x80\x80\x80\x80\x80\x80\x80\x80\x80\x01", 64, 0, 0, api.ErrForm},
		{"\x80\x80\x80\x80\x80\x80\x80\x80\x80\xff", 64, 0, 0, api.ErrForm},
	} {
		if n, size, e := leb.Signed([]byte(c.b), c.width); n != c.n || size != c.size || e != c.e {
			t.Errorf("Signed(%q, %d): %d, %d, %d", c.b, c.width, n, size, e)
		}
	}
}

// edges is numbers around all powers of 2, as words of 64 bits.
func edges() []uint64 {
	var l []uint64
	for i := range 64 {
		for _, d := range []int64{-2, -1, 0, 1} {
			n := uint64(1)<<i + uint64(d)
			l = append(l, n, -n)
		}
	}
	return append(l, 624485, 0x0123456789abcdef)
}

// unsignedBits is how many bits a number needs, signedBits those of one with a sign.
func unsignedBits(n uint64) int { return max(1, bits.Len64(n)) }
func signedBits(n int64) int    { return bits.Len64(uint64(n^n>>63)) + 1 }

// TestPutIsRead is of P1.2 and P1.3: what is put has the fewest bytes, and is read by 64 bits, by as many as it needs, and by all between, but not by fewer.
func TestPutIsRead(t *testing.T) {
	for _, n := range edges() {
		b, need := leb.Put(nil, n), unsignedBits(n)
		if len(b) != (need+6)/7 || leb.Size(n) != len(b) {
			t.Errorf("Put(%d): %v, Size %d", n, b, leb.Size(n))
		}
		for width := need; width <= 64; width++ {
			if r, size, e := leb.Unsigned(b, width); r != n || size != len(b) || e != api.OK {
				t.Errorf("Unsigned(%v, %d): %d, %d, %d", b, width, r, size, e)
			}
		}
		if _, _, e := leb.Unsigned(b, need-1); e == api.OK {
			t.Errorf("%d is read by %d bits", n, need-1)
		}
	}
}

// TestPutSignedIsRead is of P1.2 and P1.3, likewise.
func TestPutSignedIsRead(t *testing.T) {
	for _, word := range edges() {
		n := int64(word)
		b, need := leb.PutSigned(nil, n), signedBits(n)
		if len(b) != (need+6)/7 || leb.SizeSigned(n) != len(b) {
			t.Errorf("PutSigned(%d): %v, SizeSigned %d", n, b, leb.SizeSigned(n))
		}
		for width := need; width <= 64; width++ {
			if r, size, e := leb.Signed(b, width); r != n || size != len(b) || e != api.OK {
				t.Errorf("Signed(%v, %d): %d, %d, %d", b, width, r, size, e)
			}
		}
		if _, _, e := leb.Signed(b, need-1); e == api.OK {
			t.Errorf("%d is read by %d bits", n, need-1)
		}
	}
}

// TestPutBytes is of P1.2: bytes, written out.
func TestPutBytes(t *testing.T) {
	for n, want := range map[uint64]string{0: "\x00", 127: "\x7f", 128: "\x80\x01", 624485: "\xe5\x8e\x26", math.MaxUint64: "\xff\xff\xff\xff\xff\xff\xff\xff\xff\x01"} {
		if b := leb.Put(nil, n); string(b) != want {
			t.Errorf("Put(%d): %q", n, b)
		}
	}
	for n, want := range map[int64]string{0: "\x00", 63: "\x3f", 64: "\xc0\x00", -1: "\x7f", -64: "\x40", -65: "\xbf\x7f", math.MaxInt64: "\xff\xff\xff\xff\xff\xff\xff\xff\xff\x00", math.MinInt64: "\x80\x80\x80\x80\x80\x80\x80\x80\x80\x7f"} {
		if b := leb.PutSigned(nil, n); string(b) != want {
			t.Errorf("PutSigned(%d): %q", n, b)
		}
	}
}

// TestPutIsNew is of P1.2: b stands ahead, and neither it nor its spare room is touched or handed on.
func TestPutIsNew(t *testing.T) {
	for name, put := range map[string]func([]byte) []byte{
		"Put":       func(b []byte) []byte { return leb.Put(b, 300) },
		"PutSigned": func(b []byte) []byte { return leb.PutSigned(b, -300) },
	} {
		room := []byte{1, 2, 3, 4, 5, 6, 7, 8}
		out := put(room[:2])
		if len(out) != 4 || out[0] != 1 || out[1] != 2 {
			t.Errorf("%s: %v", name, out)
		}
		for i := range out {
			out[i] = 99
		}
		if !slices.Equal(room, []byte{1, 2, 3, 4, 5, 6, 7, 8}) {
			t.Errorf("%s has changed %v", name, room)
		}
	}
}
