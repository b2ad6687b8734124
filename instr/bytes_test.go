package instr_test

import (
	"bytes"
	"math"
	"math/bits"
	"slices"
	"strings"
	"testing"

	"grommet/api"
	"grommet/flash"
	"grommet/instr"
	"grommet/op"
)

// cursor is one at a place of a flash of these bytes, up to their end.
func cursor(t *testing.T, b []byte, from int) (*flash.Flash, *flash.Cursor) {
	t.Helper()
	f, e := flash.New(b)
	c, e2 := f.Cursor(from, len(b))
	if e != api.OK || e2 != api.OK {
		t.Fatalf("no cursor: %d, %d", e, e2)
	}
	return f, c
}

// TestBytes is of P11.1: the bytes of the examples, and back; the cursor stands behind them, whatever stands there.
func TestBytes(t *testing.T) {
	for _, x := range examples() {
		if b, e := x.x.Encode(); string(b) != x.bytes || e != api.OK {
			t.Errorf("Encode of %s: %x, %d, not %x", x.text, b, e, x.bytes)
		}
		for _, behind := range []string{"", "\x00", "\xff\xff"} {
			for _, ahead := range []string{"", "\xff", "\x80\x80\x80"} {
				_, c := cursor(t, []byte(ahead+x.bytes+behind), len(ahead))
				if got, e := instr.Decode(c); !is(got, x.x) || e != api.OK || c.At() != len(ahead+x.bytes) || c.Left() != len(behind) {
					t.Errorf("Decode of %x: %v, %d, at %d", x.bytes, got, e, c.At())
				}
			}
		}
	}
}

// TestBytesShort is of P11.1: of an instruction of which bytes are missing, ErrShort, though the flash, beyond the cursor's part, has them; and the cursor stays.
func TestBytesShort(t *testing.T) {
	for _, x := range examples() {
		f, _ := cursor(t, []byte("\x01"+x.bytes), 0)
		for n := range len(x.bytes) {
			c, _ := f.Cursor(1, 1+n)
			if got, e := instr.Decode(c); !zero(got) || e != api.ErrShort || c.At() != 1 || c.Left() != n {
				t.Errorf("Decode of %d bytes of %s: %v, %d, at %d", n, x.text, got, e, c.At())
			}
		}
	}
}

// TestBytesFault is of P11.1: a read that fails is told, and the cursor stays; each byte is read once, and none behind the instruction.
func TestBytesFault(t *testing.T) {
	for _, x := range examples() {
		for n := range len(x.bytes) + 1 {
			f, c := cursor(t, []byte("\x01"+x.bytes+"\x00"), 1)
			f.FailAt(n)
			got, e := instr.Decode(c)
			if n < len(x.bytes) && (!zero(got) || e != api.ErrFault || c.At() != 1 || f.Reads() != n+1) {
				t.Errorf("%s, the read %d fails: %v, %d, at %d, %d reads", x.text, n, got, e, c.At(), f.Reads())
			}
			if n == len(x.bytes) && (!is(got, x.x) || e != api.OK || f.Reads() != n) {
				t.Errorf("%s, a read behind it fails: %v, %d, %d reads", x.text, got, e, f.Reads())
			}
			f.FailAt(-1)
			if again, e := instr.Decode(c); n < len(x.bytes) && (!is(again, x.x) || e != api.OK) {
				t.Errorf("%s, again: %v, %d", x.text, again, e)
			}
		}
	}
}

// TestDecodeNil is of P11.1: ErrState of no cursor.
func TestDecodeNil(t *testing.T) {
	if x, e := instr.Decode(nil); !zero(x) || e != api.ErrState {
		t.Errorf("%v, %d", x, e)
	}
}

// wrongs are bytes that are no instruction's, and what is told of them.
func wrongs() map[string]api.Errno {
	long := strings.Repeat("\x00", 200)
	return map[string]api.Errno{
		"":             api.ErrShort,
		"\x06":         api.ErrForm,
		"\x0a":         api.ErrForm,
		"\x12":         api.ErrForm,
		"\x27":         api.ErrForm,
		"\xc5":         api.ErrForm,
		"\xd3":         api.ErrForm,
		"\xff":         api.ErrForm,
		"\xfe\x00":     api.ErrForm,
		"\xfb":         api.ErrForm,
		"\x1c\x01\x7f": api.ErrProfile,
		"\x1c":         api.ErrProfile,
		"\x25":         api.ErrProfile,
		"\x2a":         api.ErrProfile,
		"\x43":         api.ErrProfile,
		"\x44":         api.ErrProfile,
		"\x5b":         api.ErrProfile,
		"\xd0":         api.ErrProfile,
		"\xfd":         api.ErrProfile,
		"\xfd\x80":     api.ErrProfile,
		// The number behind 252.
		"\xfc":                         api.ErrShort,
		"\xfc\x80":                     api.ErrShort,
		"\xfc\x8a\x80\x80\x80":         api.ErrShort,
		"\xfc\x00":                     api.ErrProfile,
		"\xfc\x09":                     api.ErrProfile,
		"\xfc\x0c":                     api.ErrProfile,
		"\xfc\x11":                     api.ErrProfile,
		"\xfc\x91\x80\x00":             api.ErrProfile,
		"\xfc\x12":                     api.ErrForm,
		"\xfc\x8a\x01":                 api.ErrForm,
		"\xfc\xff\xff\xff\xff\x0f":     api.ErrForm,
		"\xfc\x8a\x80\x80\x80\x10":     api.ErrForm,
		"\xfc\x8a\x80\x80\x80\x80\x00": api.ErrForm,
		"\xfc\x0a":                     api.ErrShort,
		"\xfc\x0a\x00":                 api.ErrShort,
		"\xfc\x0b":                     api.ErrShort,
		// Types of blocks.
		"\x02":         api.ErrShort,
		"\x02\x00":     api.ErrForm,
		"\x02\x3f":     api.ErrForm,
		"\x03\x41":     api.ErrForm,
		"\x04\x7d":     api.ErrForm,
		"\x04\x80":     api.ErrForm,
		"\x02\xc0\x7f": api.ErrForm,
		"\x02\xc0\x00": api.ErrForm,
		"\x02\xff\x7f": api.ErrForm,
		// Numbers.
		"\x0c\x80":                             api.ErrShort,
		"\x0c\xff\xff\xff\xff\x10":             api.ErrForm,
		"\x0c\xff\xff\xff\xff\x8f":             api.ErrForm,
		"\x10\x80\x80\x80\x80\x80\x00":         api.ErrForm,
		"\x11\x80\x80\x80\x80\x80\x00":         api.ErrForm,
		"\x11\x00\x80\x80\x80\x80\x80\x00":     api.ErrForm,
		"\x11\x00\x80":                         api.ErrShort,
		"\xfc\x0a\x00\x80\x80\x80\x80\x80\x00": api.ErrForm,
		// Labels: how many is told ahead of them.
		"\x0e\x64" + long[:100]:                api.ErrShort,
		"\x0e\x65":                             api.ErrLong,
		"\x0e\x65" + long:                      api.ErrLong,
		"\x0e\xff\xff\xff\xff\x0f":             api.ErrLong,
		"\x0e\xff\xff\xff\xff\x1f":             api.ErrForm,
		"\x0e\x02\x00\xff\xff\xff\xff\x1f":     api.ErrForm,
		"\x0e\x02\x00\x00\xff\xff\xff\xff\x1f": api.ErrForm,
		"\x0e\x02\x00\x00":                     api.ErrShort,
		"\x0e\x02\x00\x00\x80":                 api.ErrShort,
		"\x0e\x00":                             api.ErrShort,
		// Aligns, memories, offsets: an align's errors are ahead of those of what stands behind it.
		"\x28":                             api.ErrShort,
		"\x28\x20":                         api.ErrForm,
		"\x28\x3f\x00":                     api.ErrForm,
		"\x28\x60":                         api.ErrForm,
		"\x28\x7f\x00\x00":                 api.ErrForm,
		"\x28\x80\x01":                     api.ErrForm,
		"\x28\xc0\x01\x00\x00":             api.ErrForm,
		"\x28\xff\xff\xff\xff\x0f":         api.ErrForm,
		"\x28\xff\xff\xff\xff\x1f":         api.ErrForm,
		"\x28\xc0\x80\x80\x80":             api.ErrShort,
		"\x28\x02":                         api.ErrShort,
		"\x28\x42":                         api.ErrShort,
		"\x28\x42\x01":                     api.ErrShort,
		"\x28\x42\x80\x80\x80\x80\x10\x00": api.ErrForm,
		"\x36\x02\x80\x80\x80\x80\x80\x80\x80\x80\x80\x02":         api.ErrForm,
		"\x36\x02\xff\xff\xff\xff\xff\xff\xff\xff\xff":             api.ErrShort,
		"\x36\x42\x01\xff\xff\xff\xff\xff\xff\xff\xff\xff\x80\x00": api.ErrForm,
		"\x36\x60\x80\x80\x80\x80\x80\x80":                         api.ErrForm,
		// Words.
		"\x41\x80":                                     api.ErrShort,
		"\x41\xff\xff\xff\xff\x0f":                     api.ErrForm,
		"\x41\x80\x80\x80\x80\x08":                     api.ErrForm,
		"\x41\x80\x80\x80\x80\x70":                     api.ErrForm,
		"\x41\x80\x80\x80\x80\x80\x00":                 api.ErrForm,
		"\x42\x80\x80\x80\x80\x80\x80\x80\x80\x80\x01": api.ErrForm,
		"\x42\xff\xff\xff\xff\xff\xff\xff\xff\xff\x7e": api.ErrForm,
		"\x42\xff\xff\xff\xff\xff\xff\xff\xff\xff":     api.ErrShort,
	}
}

// TestBytesWrong is of P11.1: what is told of bytes that are no instruction's, and the cursor stays.
func TestBytesWrong(t *testing.T) {
	for s, want := range wrongs() {
		for _, ahead := range []string{"", "\x01", "\x6a\x6a"} {
			_, c := cursor(t, []byte(ahead+s), len(ahead))
			if x, e := instr.Decode(c); !zero(x) || e != want || c.At() != len(ahead) {
				t.Errorf("Decode of %x: %v, %d, at %d, not %d", s, x, e, c.At(), want)
			}
			if want == api.ErrShort {
				continue
			}
			_, c = cursor(t, []byte(ahead+s+"\x00\x00\x00"), len(ahead))
			if x, e := instr.Decode(c); !zero(x) || e != want || c.At() != len(ahead) {
				t.Errorf("Decode of %x and more: %v, %d, at %d, not %d", s, x, e, c.At(), want)
			}
		}
	}
}

// TestFirst is of P11.1: the error that is met first, byte by byte, counts, though the next read fails: so no read is done behind it.
func TestFirst(t *testing.T) {
	for s, reads := range map[string]int{"\xfd\x00": 1, "\x06\x00": 1, "\xfc\x00\x00": 2, "\x02\x05\x00": 2, "\x28\x3f\x00": 2, "\x28\xff\x01\x00": 3, "\x0e\x65\x00": 2, "\x0e\xe5\x80\x80\x80\x00\x00": 6, "\x0c\xff\xff\xff\xff\xff\x00": 6, "\x41\x80\x80\x80\x80\x08\x00": 6} {
		f, c := cursor(t, []byte(s), 0)
		_, want := instr.Decode(c)
		if f.Reads() != reads {
			t.Errorf("%x: %d reads, not %d", s, f.Reads(), reads)
		}
		f, c = cursor(t, []byte(s), 0)
		f.FailAt(reads)
		if _, e := instr.Decode(c); e != want || e == api.ErrFault {
			t.Errorf("%x, the read %d fails: %d, not %d", s, reads, e, want)
		}
	}
}

// TestNeedless is of P11.1: needless bytes of numbers are read, and a memory 0 that is told.
func TestNeedless(t *testing.T) {
	for s, want := range map[string]instr.Instr{
		"\x0c\x80\x80\x80\x80\x00":             {Code: 12},
		"\x41\xff\xff\xff\xff\x7f":             {Code: 65, A: max32},
		"\x41\x80\x80\x00":                     {Code: 65},
		"\x42\xff\x7f":                         {Code: 66, A: max64},
		"\x0e\x81\x00\x82\x00\x83\x00":         {Code: 14, A: 3, L: []uint64{2}},
		"\x28\x82\x00\x88\x80\x00":             {Code: 40, B: 8, Align: 2},
		"\x28\xc2\x80\x00\x81\x00\x08":         {Code: 40, A: 1, B: 8, Align: 2},
		"\x28\x42\x00\x08":                     {Code: 40, B: 8, Align: 2},
		"\x28\x40\x80\x00\x00":                 {Code: 40},
		"\x28\x5f\x00\x80\x80\x80\x80\x80\x00": {Code: 40, Align: 31},
		"\xfc\x8a\x80\x80\x80\x00\x01\x02":     {Code: 64522, A: 1, B: 2},
		"\xfc\x8b\x00\x81\x00":                 {Code: 64523, A: 1},
	} {
		_, c := cursor(t, []byte(s), 0)
		if x, e := instr.Decode(c); !is(x, want) || e != api.OK || c.Left() != 0 {
			t.Errorf("Decode of %x: %v, %d, %d left", s, x, e, c.Left())
		}
		if b, _ := want.Encode(); len(b) >= len(s) {
			t.Errorf("Encode of %v isn't shorter than %x: %x", want, s, b)
		}
	}
}

// TestFirstBytes is of P11.1: each first byte, and each number behind 252, with 0s behind.
func TestFirstBytes(t *testing.T) {
	ones := bytes.Repeat([]byte{1}, 300)
	told := func(code int, b []byte) {
		t.Helper()
		_, c := cursor(t, b, 0)
		x, e := instr.Decode(c)
		info, ok := op.Find(code)
		switch {
		case op.Foreign(code):
			ok = e == api.ErrProfile && zero(x)
		case !ok || info.Form == op.Block:
			ok = e == api.ErrForm && zero(x)
		default:
			ok = e == api.OK && x.Code == code && x.Right()
		}
		if !ok {
			t.Errorf("Decode of the code %d: %v, %d", code, x, e)
		}
	}
	for code := range 252 {
		told(code, append([]byte{byte(code)}, ones...))
	}
	for code := 253; code < 256; code++ {
		told(code, append([]byte{byte(code)}, ones...))
	}
	for n := range 1000 {
		told(64512+n, slices.Concat([]byte{252}, unsigned(uint64(n)), ones))
	}
	for by := range 32 {
		told(64512+1<<by+10, slices.Concat([]byte{252}, unsigned(1<<by+10), ones))
		told(64512+math.MaxUint32-1<<by, slices.Concat([]byte{252}, unsigned(math.MaxUint32-1<<by), ones))
	}
}

// unsigned is a number's bytes.
func unsigned(n uint64) []byte {
	var b []byte
	for ; n > 127; n /= 128 {
		b = append(b, byte(n%128)+128)
	}
	return append(b, byte(n))
}

// signed is the fewest bytes of a number with a sign: as many as hold its bits and its sign, seven a byte.
func signed(n int64) []byte {
	need := bits.Len64(uint64(n)) + 1
	if n < 0 {
		need = bits.Len64(^uint64(n)) + 1
	}
	var b []byte
	for i := range (need + 6) / 7 {
		b = append(b, byte(n>>(7*i))|128)
	}
	b[len(b)-1] &= 127
	return b
}

// asBytes is what the chapter's words tell of a right instruction's bytes.
func asBytes(x instr.Instr, form int) []byte {
	b := []byte{byte(x.Code)}
	if x.Code > 64512 {
		b = append([]byte{252}, unsigned(uint64(x.Code-64512))...)
	}
	switch form {
	case op.None:
	case op.Block:
		b = append(b, byte(x.A))
	case op.Labels:
		b = append(b, byte(len(x.L)))
		for _, n := range append(slices.Clone(x.L), x.A) {
			b = append(b, unsigned(n)...)
		}
	case op.Sig, op.Two:
		b = slices.Concat(b, unsigned(x.A), unsigned(x.B))
	case op.Mem:
		if x.A != 0 {
			b = slices.Concat(b, []byte{byte(x.Align) + 64}, unsigned(x.A), unsigned(x.B))
		} else {
			b = slices.Concat(b, []byte{byte(x.Align)}, unsigned(x.B))
		}
	case op.Const:
		if x.Code == 65 {
			b = append(b, signed(int64(int32(x.A)))...)
		} else {
			b = append(b, signed(int64(x.A))...)
		}
	default:
		b = append(b, unsigned(x.A)...)
	}
	return b
}

// rights are right instructions of all ops, with numbers at edges and some between.
func rights() []instr.Instr {
	some := slices.Clone(numbers)
	seed := uint64(19112026)
	for i := range 30 {
		seed = seed*6364136223846793005 + 1442695040888963407
		some = append(some, seed>>(i*2))
	}
	var out []instr.Instr
	for _, info := range op.All() {
		for i, a := range some {
			b := some[(i*7+3)%len(some)]
			for _, x := range []instr.Instr{{A: a}, {A: a & max32}, {A: a, B: b}, {A: a & max32, B: b & max32}, {A: a & max32, B: b}, {A: a & 3, B: b, Align: i % 32}, {B: a, Align: i % 32}, {A: a & max32, L: some[:i%3]}, {A: a & max32, L: make([]uint64, i*2)}} {
				x.Code = info.Code
				if may(x, info.Form) {
					out = append(out, x)
				}
			}
		}
		for _, x := range []instr.Instr{{}, {A: 64}, {A: 126}, {A: 127}} {
			x.Code = info.Code
			if may(x, info.Form) {
				out = append(out, x)
			}
		}
	}
	return out
}

// TestEncode is of P11.1 and P11.3: the bytes of right instructions of all ops are the fewest, and are decoded.
func TestEncode(t *testing.T) {
	for _, x := range rights() {
		info, _ := op.Find(x.Code)
		b, e := x.Encode()
		if e != api.OK || !bytes.Equal(b, asBytes(x, info.Form)) {
			t.Fatalf("Encode of %v: %x, %d, not %x", x, b, e, asBytes(x, info.Form))
		}
		_, c := cursor(t, b, 0)
		if got, e := instr.Decode(c); e != api.OK || !is(got, x) || c.Left() != 0 {
			t.Fatalf("Decode of %x: %v, %d, not %v", b, got, e, x)
		}
	}
}
