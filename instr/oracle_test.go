package instr_test

import (
	"math"
	"strings"
	"testing"

	"grommet/api"
	"grommet/flash"
	"grommet/instr"
	"grommet/leb"
	"grommet/op"
)

// kinds are, by forms, what stands behind a code: t a block's type, n a number, c how many numbers n stand behind it, m an align (and a memory), o an offset, w a word.
var kinds = [...]string{op.None: "", op.Block: "t", op.Label: "n", op.Labels: "cn", op.Func: "n", op.Sig: "nn", op.Local: "n", op.Global: "n", op.Mem: "mo", op.One: "n", op.Two: "nn", op.Const: "w"}

// slow reads the instruction that bytes begin with: its numbers in a row, how many bytes, and the error.
func slow(b []byte) (int, []uint64, int, api.Errno) {
	if len(b) == 0 {
		return 0, nil, 0, api.ErrShort
	}
	code, at := int(b[0]), 1
	if code == 252 {
		n, size, e := leb.Unsigned(b[1:], 32)
		if e != api.OK {
			return 0, nil, 0, e
		}
		code, at = 64512+int(n), at+size
	}
	if op.Foreign(code) {
		return 0, nil, 0, api.ErrProfile
	}
	info, ok := op.Find(code)
	if !ok {
		return 0, nil, 0, api.ErrForm
	}
	var row []uint64
	for todo := kinds[info.Form]; todo != ""; {
		n, size, e := one(todo[0], code, b[at:])
		if e != api.OK {
			return 0, nil, 0, e
		}
		row, at = append(row, n), at+size
		switch {
		case todo[0] == 'c':
			todo = strings.Repeat("n", int(n)) + todo[1:]
		case todo[0] == 'm' && n >= 64:
			todo = "n" + todo[1:]
		case todo[0] == 'm':
			row, todo = append(row, 0), todo[1:]
		default:
			todo = todo[1:]
		}
	}
	return code, row, at, api.OK
}

// one reads a number of a kind.
func one(kind byte, code int, b []byte) (uint64, int, api.Errno) {
	switch kind {
	case 't':
		if len(b) == 0 {
			return 0, 0, api.ErrShort
		}
		if b[0] != 64 && b[0] != 126 && b[0] != 127 {
			return 0, 0, api.ErrForm
		}
		return uint64(b[0]), 1, api.OK
	case 'w':
		n, size, e := leb.Signed(b, 32*(code-64))
		return uint64(n) & (math.MaxUint64 >> (32 * (66 - code))), size, e
	case 'o':
		return leb.Unsigned(b, 64)
	}
	n, size, e := leb.Unsigned(b, 32)
	if e == api.OK && kind == 'c' && n > 100 {
		return 0, 0, api.ErrLong
	}
	if e == api.OK && kind == 'm' && (n > 31 && n < 64 || n > 95) {
		return 0, 0, api.ErrForm
	}
	return n, size, e
}

// fill is an instruction of a row of numbers.
func fill(code int, row []uint64) instr.Instr {
	x := instr.Instr{Code: code}
	info, _ := op.Find(code)
	switch kinds[info.Form] {
	case "t", "n", "w":
		x.A = row[0]
	case "nn":
		x.A, x.B = row[0], row[1]
	case "cn":
		x.L, x.A = row[1:len(row)-1], row[len(row)-1]
	case "mo":
		x.Align, x.A, x.B = int(row[0])%64, row[1], row[2]
	}
	return x
}

// held holds Decode against slow, and answers how many bytes were read, and the error.
func held(t *testing.T, b []byte, from int) (int, api.Errno) {
	t.Helper()
	f, _ := flash.New(b)
	c, _ := f.Cursor(0, len(b))
	c.Go(from)
	got, e := instr.Decode(c)
	code, row, size, want := slow(b[from:])
	if e != want || c.At() != from+size || e != api.OK && !zero(got) || e == api.OK && !is(got, fill(code, row)) {
		t.Fatalf("Decode of %x: %v, %d, at %d, not %d, %v, %d", b[from:], got, e, c.At()-from, code, row, want)
	}
	if e == api.OK && (!got.Right() || f.Reads() != size) {
		t.Fatalf("Decode of %x: %v, which isn't right, or of %d reads", b[from:], got, f.Reads())
	}
	return size, e
}

// TestDecodeShort is of P11.1: all bytes that begin with any one, and go on with up to three of these.
func TestDecodeShort(t *testing.T) {
	some := []byte{0, 1, 2, 10, 11, 31, 32, 63, 64, 65, 95, 96, 101, 126, 127, 128, 138, 192, 255}
	var grow func(b []byte, more int)
	grow = func(b []byte, more int) {
		held(t, b, 0)
		if more == 0 {
			return
		}
		for _, c := range some {
			grow(append(b[:len(b):len(b)], c), more-1)
		}
	}
	for first := range 256 {
		more := 1
		switch first {
		case 14, 17, 40, 252:
			more = 3
		case 2, 12, 16, 41, 54, 63, 65, 66:
			more = 2
		}
		grow([]byte{byte(first)}, more)
	}
}

// row is bytes that are chance's, but often those of instructions.
func row(seed *uint64, n int) []byte {
	next := func(n int) int {
		*seed = *seed*6364136223846793005 + 1442695040888963407
		return int(*seed >> 33 % uint64(n))
	}
	ops := []byte{0, 1, 2, 3, 4, 5, 11, 12, 13, 14, 16, 17, 26, 32, 40, 41, 54, 62, 63, 64, 65, 66, 106, 196, 252}
	ends := []byte{0, 1, 15, 16, 63, 64, 112, 120, 126, 127}
	var b []byte
	for len(b) < n {
		switch next(8) {
		case 0:
			b = append(b, byte(next(256)))
		case 1:
			b = append(b, 64+byte(next(34)))
		case 2:
			for range next(11) {
				b = append(b, 128+byte(next(2)*127))
			}
			b = append(b, ends[next(len(ends))])
		case 3, 4:
			b = append(b, byte(next(12)))
		default:
			b = append(b, ops[next(len(ops))])
		}
	}
	return b
}

// TestDecodeRows is of P11.1: rows of bytes, at each place.
func TestDecodeRows(t *testing.T) {
	seed := uint64(7)
	for range 1500 {
		b := row(&seed, 40)
		for from := range b {
			held(t, b, from)
		}
	}
}

// TestAll is of P11.1: all instructions of a row of bytes, or where the first one begins that can't be read.
func TestAll(t *testing.T) {
	seed, fine := uint64(8), 0
	for i := range 6000 {
		b := row(&seed, 1+i%12)
		var want []instr.Instr
		at, e := 0, api.OK
		for at < len(b) && e == api.OK {
			var size int
			if size, e = held(t, b, at); e == api.OK {
				code, numbers, _, _ := slow(b[at:])
				want, at = append(want, fill(code, numbers)), at+size
			}
		}
		got, n, e2 := instr.All(b)
		if e != api.OK {
			want = nil
		} else {
			fine++
		}
		if n != at || e2 != e || len(got) != len(want) || e != api.OK && got != nil {
			t.Fatalf("All of %x: %v, %d, %d, not %d, %d", b, got, n, e2, at, e)
		}
		for i := range got {
			if !is(got[i], want[i]) {
				t.Fatalf("All of %x: %v, not %v", b, got, want)
			}
		}
	}
	if fine < 100 {
		t.Errorf("but %d rows can be read", fine)
	}
}

// TestAllEnds is of P11.1: no bytes, as many as may be, and more.
func TestAllEnds(t *testing.T) {
	for _, b := range [][]byte{nil, {}} {
		if l, n, e := instr.All(b); l != nil || n != 0 || e != api.OK {
			t.Errorf("All of none: %v, %d, %d", l, n, e)
		}
	}
	most := make([]byte, api.MaxModule)
	if l, n, e := instr.All(most); len(l) != len(most) || n != len(most) || e != api.OK {
		t.Errorf("All of the most: %d, %d, %d", len(l), n, e)
	}
	most[len(most)-1] = 6
	if l, n, e := instr.All(most); l != nil || n != len(most)-1 || e != api.ErrForm {
		t.Errorf("All of the most, the last one wrong: %d, %d, %d", len(l), n, e)
	}
	for _, more := range []byte{0, 6, 253} {
		if l, n, e := instr.All(append(most, more)); l != nil || n != 0 || e != api.ErrLong {
			t.Errorf("All of one more: %d, %d, %d", len(l), n, e)
		}
	}
	for s, want := range map[string]struct {
		n int
		e api.Errno
	}{"\x01\x0c\x02\x06": {3, api.ErrForm}, "\x01\x01\xfd": {2, api.ErrProfile}, "\x01\x0e\x65": {1, api.ErrLong}, "\x01\x0c\x02\x0c": {3, api.ErrShort}, "\x06\xfd": {0, api.ErrForm}, "\x01\x02": {1, api.ErrShort}} {
		if l, n, e := instr.All([]byte(s)); l != nil || n != want.n || e != want.e {
			t.Errorf("All of %x: %v, %d, %d", s, l, n, e)
		}
	}
}
