package conv_test

import (
	"bytes"
	"math"
	"strconv"
	"strings"
	"testing"

	"grommet/api"
	"grommet/conv"
	"grommet/word"
)

const (
	max32 = 1<<32 - 1
	max64 = 1<<64 - 1
	low32 = 1 << 31
	low64 = 1 << 63
)

// none are numbers of bits and of bytes that are none.
var none = []int{math.MinInt, -64, -32, -16, -8, -4, -2, -1, 0, 3, 5, 6, 7, 9, 15, 17, 24, 31, 33, 40, 63, 65, 128, 256, 1 << 32, 1<<32 + 8, 1<<32 + 32, math.MaxInt}

// words are words near the ends of what 8, 16, 32 and 64 bits can tell, and what a row of numbers goes on with.
func words(n int) []uint64 {
	as, x := []uint64{0xaaaaaaaaaaaaaaaa, 0x0123456789abcdef}, uint64(18112026)
	for _, by := range []int{0, 7, 8, 15, 16, 31, 32, 63} {
		as = append(as, 1<<by-1, 1<<by, 1<<by+1, -(1 << by), -(1<<by)-1)
	}
	for i := range n {
		x = x*6364136223846793005 + 1442695040888963407
		as = append(as, (x^x>>29)>>(i*7%64))
	}
	return as
}

// long is a word's low bits, above which all are as the highest of them is, if there is a sign, put one by one.
func long(from, to int, signed bool, a uint64) uint64 {
	var out uint64
	for i := range to {
		bit := a >> min(i, from-1) & 1
		if i < from || signed {
			out |= bit << i
		}
	}
	return out
}

// TestExtend is of P6.1: the low bits, without a sign and with one.
func TestExtend(t *testing.T) {
	for _, c := range []struct {
		from, to int
		signed   bool
		a, want  uint64
	}{
		{8, 32, true, 255, max32}, {8, 32, false, 255, 255}, {8, 32, true, 127, 127}, {8, 32, true, 128, max32 - 127}, {8, 32, false, 128, 128}, {8, 32, true, 0xff00, 0},
		{16, 32, true, 0xffff, max32}, {16, 32, false, 0xffff, 0xffff}, {16, 32, true, 0x7fff, 0x7fff}, {16, 32, true, 0x8000, 0xffff8000}, {16, 32, false, 0x18000, 0x8000},
		{32, 32, true, low32, low32}, {32, 32, false, low32, low32}, {32, 32, true, max64, max32}, {32, 32, false, max64, max32}, {32, 32, true, 1 << 32, 0},
		{8, 64, true, 255, max64}, {8, 64, false, 255, 255}, {8, 64, true, 127, 127}, {8, 64, true, 0x80, max64 - 127},
		{16, 64, true, 0x8000, max64 - 0x7fff}, {16, 64, false, 0x8000, 0x8000}, {16, 64, true, 0x7fff, 0x7fff},
		{32, 64, true, low32, max64 - low32 + 1}, {32, 64, false, low32, low32}, {32, 64, true, low32 - 1, low32 - 1}, {32, 64, true, max32, max64}, {32, 64, false, max64, max32},
	} {
		if v, e := conv.Extend(c.from, c.to, c.signed, c.a); v != c.want || e != api.OK {
			t.Errorf("Extend(%d, %d, %t, %#x): %#x, %d, not %#x", c.from, c.to, c.signed, c.a, v, e, c.want)
		}
	}
	for _, a := range words(200) {
		for _, from := range []int{8, 16, 32} {
			for _, to := range []int{32, 64} {
				for _, signed := range []bool{false, true} {
					if v, e := conv.Extend(from, to, signed, a); v != long(from, to, signed, a) || e != api.OK {
						t.Errorf("Extend(%d, %d, %t, %#x): %#x, %d", from, to, signed, a, v, e)
					}
				}
			}
		}
	}
}

// TestExtendWrong is of P6.1: other numbers of bits than 8, 16, 32, and 32, 64.
func TestExtendWrong(t *testing.T) {
	for _, signed := range []bool{false, true} {
		for _, a := range []uint64{0, 1, 255, max64} {
			for _, n := range append([]int{1, 2, 4}, none...) {
				for _, good := range []int{8, 16, 32, 64} {
					narrow(t, n, good, signed, a)
					narrow(t, good, n, signed, a)
				}
				narrow(t, n, n, signed, a)
			}
			for _, to := range []int{8, 16, 32, 64} {
				narrow(t, 64, to, signed, a)
			}
			for _, from := range []int{8, 16, 32, 64} {
				narrow(t, from, 8, signed, a)
				narrow(t, from, 16, signed, a)
			}
		}
	}
}

// narrow holds Extend against ErrArg.
func narrow(t *testing.T, from, to int, signed bool, a uint64) {
	t.Helper()
	if v, e := conv.Extend(from, to, signed, a); v != 0 || e != api.ErrArg {
		t.Errorf("Extend(%d, %d, %t, %#x): %#x, %d", from, to, signed, a, v, e)
	}
}

// TestWrap is of P6.1: the low 32 bits.
func TestWrap(t *testing.T) {
	for _, a := range words(200) {
		if v := conv.Wrap(a); v != a&max32 {
			t.Errorf("Wrap(%#x): %#x", a, v)
		}
	}
}

// TestBytes is of P6.1: a word's bytes, the lowest first.
func TestBytes(t *testing.T) {
	all := []byte{0xef, 0xcd, 0xab, 0x89, 0x67, 0x45, 0x23, 0x01}
	for _, n := range []int{1, 2, 4, 8} {
		if b, e := conv.Bytes(0x0123456789abcdef, n); !bytes.Equal(b, all[:n]) || e != api.OK {
			t.Errorf("%d bytes: %x, %d", n, b, e)
		}
	}
	for _, a := range words(100) {
		for _, n := range []int{1, 2, 4, 8} {
			b, e := conv.Bytes(a, n)
			if len(b) != n || e != api.OK {
				t.Fatalf("Bytes(%#x, %d): %x, %d", a, n, b, e)
			}
			for i, c := range b {
				if uint64(c) != a>>(8*i)%256 {
					t.Errorf("Bytes(%#x, %d): %x", a, n, b)
				}
			}
		}
		for _, n := range append([]int{16, 32, 64}, none...) {
			if b, e := conv.Bytes(a, n); b != nil || e != api.ErrArg {
				t.Errorf("Bytes(%#x, %d): %x, %d", a, n, b, e)
			}
		}
	}
	b, _ := conv.Bytes(1, 8)
	b[0] = 7
	if c, _ := conv.Bytes(1, 8); c[0] != 1 {
		t.Errorf("bytes that were answered were changed: %x", c)
	}
}

// TestWord is of P6.1: the word of 1, 2, 4 or 8 bytes.
func TestWord(t *testing.T) {
	all := []byte{0xef, 0xcd, 0xab, 0x89, 0x67, 0x45, 0x23, 0x81}
	for n, want := range map[int]uint64{1: 0xef, 2: 0xcdef, 4: 0x89abcdef, 8: 0x8123456789abcdef} {
		if a, e := conv.Word(all[:n]); a != want || e != api.OK {
			t.Errorf("of %d bytes: %#x, %d", n, a, e)
		}
	}
	for _, a := range words(100) {
		for _, n := range []int{1, 2, 4, 8} {
			b, _ := conv.Bytes(a, n)
			if v, e := conv.Word(b); v != a<<(64-8*n)>>(64-8*n) || e != api.OK {
				t.Errorf("Word of Bytes(%#x, %d): %#x, %d", a, n, v, e)
			}
		}
	}
	for _, n := range []int{0, 3, 5, 6, 7, 9, 16, 32, 64, 256, 70000} {
		if a, e := conv.Word(make([]byte, n, n+8)); a != 0 || e != api.ErrArg {
			t.Errorf("of %d bytes: %#x, %d", n, a, e)
		}
	}
	if a, e := conv.Word(nil); a != 0 || e != api.ErrArg {
		t.Errorf("of nil: %#x, %d", a, e)
	}
	if !bytes.Equal(all, []byte{0xef, 0xcd, 0xab, 0x89, 0x67, 0x45, 0x23, 0x81}) {
		t.Errorf("what was handed in was changed: %x", all)
	}
}

// TestLoad is of P6.1: bytes' words, extended.
func TestLoad(t *testing.T) {
	for _, c := range []struct {
		b      []byte
		to     int
		signed bool
		want   uint64
	}{
		{[]byte{0x80}, 32, true, 0xffffff80}, {[]byte{0x80}, 32, false, 0x80}, {[]byte{0x7f}, 32, true, 0x7f}, {[]byte{0x80}, 64, true, max64 - 127},
		{[]byte{0, 0x80}, 32, true, 0xffff8000}, {[]byte{0, 0x80}, 64, false, 0x8000}, {[]byte{0xff, 0xff}, 64, true, max64}, {[]byte{0x80, 0x7f}, 64, true, 0x7f80},
		{[]byte{1, 2, 3, 0x84}, 32, true, 0x84030201}, {[]byte{1, 2, 3, 0x84}, 32, false, 0x84030201}, {[]byte{1, 2, 3, 0x84}, 64, false, 0x84030201}, {[]byte{1, 2, 3, 0x84}, 64, true, 0xffffffff84030201},
		{[]byte{1, 2, 3, 4, 5, 6, 7, 0x88}, 64, false, 0x8807060504030201}, {[]byte{1, 2, 3, 4, 5, 6, 7, 0x88}, 64, true, 0x8807060504030201},
	} {
		if v, e := conv.Load(c.b, c.to, c.signed); v != c.want || e != api.OK {
			t.Errorf("Load(%x, %d, %t): %#x, %d, not %#x", c.b, c.to, c.signed, v, e, c.want)
		}
	}
	for _, a := range words(100) {
		for _, n := range []int{1, 2, 4} {
			for _, to := range []int{32, 64} {
				for _, signed := range []bool{false, true} {
					b, _ := conv.Bytes(a, n)
					if v, e := conv.Load(b, to, signed); v != long(8*n, to, signed, a) || e != api.OK {
						t.Errorf("Load(%x, %d, %t): %#x, %d", b, to, signed, v, e)
					}
				}
			}
		}
	}
}

// TestLoadWrong is of P6.1: other lengths, 8 bytes as a word of 32 bits, other widths.
func TestLoadWrong(t *testing.T) {
	ones := bytes.Repeat([]byte{255}, 300)
	for _, signed := range []bool{false, true} {
		for _, to := range []int{32, 64} {
			for _, n := range []int{0, 3, 5, 6, 7, 9, 12, 16, 32, 64, 256, 300} {
				unread(t, ones[:n], to, signed)
			}
			unread(t, nil, to, signed)
		}
		unread(t, ones[:8], 32, signed)
		for _, to := range append([]int{1, 2, 4, 8, 16}, none...) {
			for _, n := range []int{0, 1, 2, 4, 8} {
				unread(t, ones[:n], to, signed)
			}
		}
	}
}

// unread holds Load against ErrArg.
func unread(t *testing.T, b []byte, to int, signed bool) {
	t.Helper()
	if v, e := conv.Load(b, to, signed); v != 0 || e != api.ErrArg {
		t.Errorf("Load(%x, %d, %t): %#x, %d", b, to, signed, v, e)
	}
}

// TestPrint is of P6.2: in tens, as a number with a sign.
func TestPrint(t *testing.T) {
	for _, c := range []struct {
		bits int
		a    uint64
		want string
	}{
		{32, 0, "0"}, {32, 7, "7"}, {32, max32, "-1"}, {32, low32 - 1, "2147483647"}, {32, low32, "-2147483648"}, {32, 1 << 32, "0"}, {32, max64, "-1"}, {32, low64 | 5, "5"},
		{64, 0, "0"}, {64, 10, "10"}, {64, max32, "4294967295"}, {64, low32, "2147483648"}, {64, max64, "-1"}, {64, low64 - 1, "9223372036854775807"}, {64, low64, "-9223372036854775808"},
	} {
		if s := conv.Print(c.bits, c.a); s != c.want {
			t.Errorf("Print(%d, %#x): %q, not %q", c.bits, c.a, s, c.want)
		}
	}
	for _, a := range words(100) {
		if s := conv.Print(32, a); s != strconv.Itoa(int(int32(a))) {
			t.Errorf("Print(32, %#x): %q", a, s)
		}
		for _, bits := range append([]int{8, 16, 64}, none...) {
			if s := conv.Print(bits, a); s != strconv.Itoa(int(a)) {
				t.Errorf("Print(%d, %#x): %q", bits, a, s)
			}
		}
	}
}

// TestHex is of P6.2: in small hex digits, without needless 0s.
func TestHex(t *testing.T) {
	for a, want := range map[uint64]string{
		0: "0x0", 1: "0x1", 9: "0x9", 10: "0xa", 15: "0xf", 16: "0x10", 255: "0xff", max32: "0xffffffff", 1 << 32: "0x100000000",
		0xdeadbeef: "0xdeadbeef", 0x0fedcba987654321: "0xfedcba987654321", low64: "0x8000000000000000", max64: "0xffffffffffffffff",
	} {
		if s := conv.Hex(a); s != want {
			t.Errorf("Hex(%#x): %q", a, s)
		}
	}
}

// reads holds what Parse answers against a word.
func reads(t *testing.T, bits int, s string, want uint64) {
	t.Helper()
	if a, e := conv.Parse(bits, s); a != want || e != api.OK {
		t.Errorf("Parse(%d, %q): %#x, %d, not %#x", bits, s, a, e, want)
	}
}

// refuses holds what Parse answers against an error.
func refuses(t *testing.T, bits int, s string, want api.Errno) {
	t.Helper()
	if a, e := conv.Parse(bits, s); a != 0 || e != want {
		t.Errorf("Parse(%d, %.40q): %#x, %d, not %d", bits, s, a, e, want)
	}
}

// TestParse is of P6.2: words' texts, up to the lowest and the highest word, and one beyond each.
func TestParse(t *testing.T) {
	for s, want := range map[string]uint64{"0": 0, "1": 1, "9": 9, "10": 10, "-1": max32, "-10": max32 - 9, "2147483647": low32 - 1, "2147483648": low32, "4294967295": max32,
		"-2147483647": low32 + 1, "-2147483648": low32, "0x0": 0, "0x1": 1, "0xa": 10, "0x10": 16, "0x7fffffff": low32 - 1, "0xffffffff": max32, "0xdeadbeef": 0xdeadbeef} {
		reads(t, 32, s, want)
	}
	for s, want := range map[string]uint64{"0": 0, "7": 7, "-1": max64, "-2147483649": max64 - low32, "4294967296": 1 << 32, "9223372036854775807": low64 - 1, "9223372036854775808": low64, "18446744073709551615": max64,
		"-9223372036854775807": low64 + 1, "-9223372036854775808": low64, "0x0": 0, "0x100000000": 1 << 32, "0x8000000000000000": low64, "0xffffffffffffffff": max64} {
		reads(t, 64, s, want)
	}
	for _, s := range []string{"4294967296", "-2147483649", "0x100000000", "10000000000", "-10000000000", "18446744073709551616", "9223372036854775808", "-9223372036854775808", "0xffffffffffffffff"} {
		refuses(t, 32, s, api.ErrForm)
	}
	for _, s := range []string{"18446744073709551616", "-9223372036854775809", "0x10000000000000000", "18446744073709551620", "99999999999999999999", "-18446744073709551615", "36893488147419103232", "-18446744073709551617"} {
		refuses(t, 64, s, api.ErrForm)
	}
}

// strange are texts that are no word's.
func strange() []string {
	return []string{"", "-", "+", "x", "0x", "-0x", "-0", "+0", "+1", "--1", "-+1", "00", "007", "-01", "-00", "01", "0x00", "0x01", "0x0f", "0X1", "0Xff", "0xF", "0xFF", "0xfF", "-0x1", "+0x1", "0x-1", "0x+1", "0xg", "0x0x1",
		"x1", "ff", "a", "0a", "1a", "0b1", "0o7", "1_000", "0x1_0", "_1", "1_", " 1", "1 ", "- 1", "1\n", "\t1", "1\x00", "\x00", "1.0", "1e3", "0x1p1", ".", "1,000", "'1'", "nil", "NaN", "Inf", "\xff", "\xef\xbb\xbf1", "\u0663", "\uff11", "\u22121", "0x\uff11",
		"00000000000000000000", "00000000000000000001", "0x000000000000000001", "0x00000000000000000000001"}
}

// TestParseWrong is of P6.2: texts that are no word's, and bits of which there are no words; ErrArg is told first.
func TestParseWrong(t *testing.T) {
	texts := strange()
	for _, s := range []string{"0", "1", "9", "f", " ", "-", "0x"} {
		texts = append(texts, strings.Repeat(s, 21), strings.Repeat(s, 1<<20), "0x"+strings.Repeat(s, 1<<20))
	}
	for _, s := range texts {
		refuses(t, 32, s, api.ErrForm)
		refuses(t, 64, s, api.ErrForm)
	}
	for _, bits := range append([]int{8, 16}, none...) {
		for _, s := range append(texts, "0", "1", "-1", "0xff") {
			refuses(t, bits, s, api.ErrArg)
		}
	}
}

// TestParseAll is of P6.2: of all texts of up to 4 of these bytes just those are words' that are told so.
func TestParseAll(t *testing.T) {
	can := map[string]uint64{}
	for i := range 10000 {
		can[strconv.Itoa(i)] = uint64(i)
		can["-"+strconv.Itoa(i+1)] = -uint64(i + 1)
		can["0x"+strconv.FormatInt(int64(i), 16)] = uint64(i)
	}
	texts := []string{""}
	for i := 0; len(texts[i]) < 4; i++ {
		for _, c := range "0129afxAFX-+_ g" {
			texts = append(texts, texts[i]+string(c))
		}
	}
	for _, s := range texts {
		if a, ok := can[s]; ok {
			reads(t, 64, s, a)
			reads(t, 32, s, a&max32)
		} else {
			refuses(t, 64, s, api.ErrForm)
			refuses(t, 32, s, api.ErrForm)
		}
	}
}

// TestPrinted is of P6.3: what is printed, in tens, in hex digits or without a sign, is parsed.
func TestPrinted(t *testing.T) {
	for _, a := range words(500) {
		reads(t, 32, conv.Print(32, a), word.Cut(32, a))
		reads(t, 64, conv.Print(64, a), a)
		reads(t, 32, conv.Hex(conv.Wrap(a)), conv.Wrap(a))
		reads(t, 64, conv.Hex(a), a)
		reads(t, 64, strconv.FormatUint(a, 10), a)
		reads(t, 32, strconv.FormatUint(a&max32, 10), a&max32)
	}
}
