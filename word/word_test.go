package word_test

import (
	"math"
	"math/big"
	"testing"

	"grommet/api"
	"grommet/word"
)

const (
	max32 = 1<<32 - 1
	max64 = 1<<64 - 1
	low32 = 1 << 31
	low64 = 1 << 63
	// junk is set above a word of 32 bits, where nothing may look.
	junk = 0xdeadbeef << 32
)

// none are bits of which there are no words.
var none = []int{math.MinInt, -64, -32, -1, 0, 1, 8, 16, 31, 33, 63, 65, 128, 1 << 32, 1<<32 + 32, math.MaxInt}

// beyond are ops that there are not, where there are so many.
func beyond(ops int) []int {
	return []int{math.MinInt, -1 << 32, -ops, -1, ops, ops + 1, ops + 100, 256, 1 << 32, math.MaxInt}
}

// edges are words near the ends of what words of 8, 16, 32 and 64 bits can tell, and some between.
func edges() []uint64 {
	as := []uint64{0xaaaaaaaaaaaaaaaa, 0x5555555555555555, 0x0123456789abcdef, 0xfedcba9876543210, junk | 7, junk | low32, junk | max32, junk, max64 - 31}
	for _, by := range []int{0, 1, 4, 5, 6, 7, 15, 31, 32, 33, 62, 63} {
		for add := -3; add <= 3; add++ {
			as = append(as, 1<<by+uint64(add))
		}
	}
	return as
}

// more are edges, and what a row of numbers goes on with, of all lengths.
func more(n int) []uint64 {
	as, x := edges(), uint64(20261118)
	for i := range n {
		x = x*6364136223846793005 + 1442695040888963407
		as = append(as, (x^x>>29)>>(i*7%64))
	}
	return as
}

// whole is a word as a number without a sign, or with one.
func whole(n int, a uint64, signed bool) *big.Int {
	v := modulo(n, new(big.Int).SetUint64(a))
	if signed && v.Bit(n-1) == 1 {
		v.Sub(v, new(big.Int).Lsh(big.NewInt(1), uint(n)))
	}
	return v
}

// modulo is the word that a number is.
func modulo(n int, v *big.Int) *big.Int {
	return new(big.Int).Mod(v, new(big.Int).Lsh(big.NewInt(1), uint(n)))
}

// turned is a word whose bits are shifted around its ends, bit by bit.
func turned(n int, v *big.Int, by int) *big.Int {
	out := new(big.Int)
	for i := range n {
		out.SetBit(out, ((i+by)%n+n)%n, v.Bit(i))
	}
	return out
}

// told is what Binary must answer.
func told(op, n int, a, b uint64) (uint64, api.Trap) {
	ua, ub, sa, sb := whole(n, a, false), whole(n, b, false), whole(n, a, true), whole(n, b, true)
	by := int(b % uint64(n))
	out := new(big.Int)
	if (op == word.DivS || op == word.DivU || op == word.RemS || op == word.RemU) && ub.Sign() == 0 {
		return 0, api.DivZero
	}
	switch op {
	case word.Add:
		out.Add(ua, ub)
	case word.Sub:
		out.Sub(ua, ub)
	case word.Mul:
		out.Mul(ua, ub)
	case word.DivS:
		if out.Quo(sa, sb); out.BitLen() == n && out.Sign() > 0 {
			return 0, api.Overflow
		}
	case word.DivU:
		out.Quo(ua, ub)
	case word.RemS:
		out.Rem(sa, sb)
	case word.RemU:
		out.Rem(ua, ub)
	case word.And:
		out.And(ua, ub)
	case word.Or:
		out.Or(ua, ub)
	case word.Xor:
		out.Xor(ua, ub)
	case word.Shl:
		out.Lsh(ua, uint(by))
	case word.ShrS:
		out.Rsh(sa, uint(by))
	case word.ShrU:
		out.Rsh(ua, uint(by))
	case word.Rotl:
		out = turned(n, ua, by)
	case word.Rotr:
		out = turned(n, ua, -by)
	}
	return modulo(n, out).Uint64(), api.NoTrap
}

// does holds what Binary answers against what it must.
func does(t *testing.T, op, n int, a, b, want uint64, trap api.Trap) {
	t.Helper()
	if v, p, e := word.Binary(op, n, a, b); v != want || p != trap || e != api.OK {
		t.Errorf("Binary(%d, %d, %#x, %#x): %#x, %d, %d, not %#x, %d", op, n, a, b, v, p, e, want, trap)
	}
}

// TestCount is of the words ahead of P5.1: which number each op has.
func TestCount(t *testing.T) {
	for want, op := range []int{word.Add, word.Sub, word.Mul, word.DivS, word.DivU, word.RemS, word.RemU, word.And, word.Or, word.Xor, word.Shl, word.ShrS, word.ShrU, word.Rotl, word.Rotr} {
		if op != want {
			t.Errorf("binary op %d is %d", want, op)
		}
	}
	for want, op := range []int{word.Eq, word.Ne, word.LtS, word.LtU, word.GtS, word.GtU, word.LeS, word.LeU, word.GeS, word.GeU} {
		if op != want {
			t.Errorf("test %d is %d", want, op)
		}
	}
	for want, op := range []int{word.Clz, word.Ctz, word.Popcnt, word.Eqz} {
		if op != want {
			t.Errorf("unary op %d is %d", want, op)
		}
	}
}

// TestCut is of P5.1: only of 32 bits anything is cut off.
func TestCut(t *testing.T) {
	for _, a := range more(500) {
		if v := word.Cut(32, a); v != a%(1<<32) {
			t.Errorf("Cut(32, %#x): %#x", a, v)
		}
		for _, n := range append([]int{64}, none...) {
			if v := word.Cut(n, a); v != a {
				t.Errorf("Cut(%d, %#x): %#x", n, a, v)
			}
		}
	}
}

// TestSign is of P5.1: a word, cut, as a number with a sign.
func TestSign(t *testing.T) {
	for _, c := range []struct {
		n    int
		a    uint64
		want int64
	}{
		{32, 0, 0}, {32, 1, 1}, {32, low32 - 1, math.MaxInt32}, {32, low32, math.MinInt32}, {32, low32 + 1, math.MinInt32 + 1}, {32, max32, -1},
		{32, 1 << 32, 0}, {32, junk | 5, 5}, {32, junk | max32, -1}, {32, max64, -1}, {32, low64, 0},
		{64, 0, 0}, {64, low32, low32}, {64, max32, max32}, {64, low64 - 1, math.MaxInt64}, {64, low64, math.MinInt64}, {64, max64, -1},
	} {
		if v := word.Sign(c.n, c.a); v != c.want {
			t.Errorf("Sign(%d, %#x): %d, not %d", c.n, c.a, v, c.want)
		}
	}
	for _, a := range more(500) {
		for _, n := range []int{32, 64} {
			if v := word.Sign(n, a); big.NewInt(v).Cmp(whole(n, a, true)) != 0 {
				t.Errorf("Sign(%d, %#x): %d", n, a, v)
			}
		}
		for _, n := range none {
			if v := word.Sign(n, a); v != word.Sign(64, a) {
				t.Errorf("Sign(%d, %#x): %d", n, a, v)
			}
		}
	}
}

// TestBinary is of P5.1: what comes of two words, told one by one.
func TestBinary(t *testing.T) {
	for _, c := range []struct {
		op, n      int
		a, b, want uint64
	}{
		{word.Add, 32, max32, 1, 0}, {word.Add, 64, max32, 1, 1 << 32}, {word.Add, 64, max64, 1, 0}, {word.Add, 32, junk | 1, junk | 2, 3},
		{word.Sub, 32, 0, 1, max32}, {word.Sub, 64, 0, 1, max64}, {word.Sub, 32, 1 << 32, 1, max32},
		{word.Mul, 32, 65536, 65536, 0}, {word.Mul, 64, 65536, 65536, 1 << 32}, {word.Mul, 64, low64, 2, 0}, {word.Mul, 32, max32, max32, 1},
		{word.DivS, 32, 7, 2, 3}, {word.DivS, 32, max32 - 6, 2, max32 - 2}, {word.DivS, 32, 7, max32 - 1, max32 - 2}, {word.DivS, 32, max32 - 6, max32 - 1, 3},
		{word.DivS, 64, max64 - 6, 2, max64 - 2}, {word.DivS, 32, low32, 1, low32}, {word.DivS, 64, low64, 1, low64}, {word.DivS, 64, low32, max32, 0},
		{word.DivU, 32, max32 - 6, 2, low32 - 4}, {word.DivU, 32, low32, max32, 0}, {word.DivU, 64, low64, max64, 0}, {word.DivU, 32, junk | 9, junk | 2, 4},
		{word.RemS, 32, 7, 2, 1}, {word.RemS, 32, max32 - 6, 2, max32}, {word.RemS, 32, 7, max32 - 1, 1}, {word.RemS, 32, max32 - 6, max32 - 1, max32},
		{word.RemS, 32, low32, max32, 0}, {word.RemS, 64, low64, max64, 0}, {word.RemS, 64, max64 - 6, 2, max64}, {word.RemS, 32, low32, low32 - 1, max32},
		{word.RemU, 32, max32, 10, 5}, {word.RemU, 64, max64, 10, 5}, {word.RemU, 32, low32, max32, low32},
		{word.And, 32, max64, junk | 12, 12}, {word.And, 64, max64, junk | 12, junk | 12}, {word.Or, 32, junk, 12, 12}, {word.Or, 64, low64, 12, low64 | 12},
		{word.Xor, 32, junk | 10, 12, 6}, {word.Xor, 64, max64, 1, max64 - 1},
		{word.Shl, 32, 1, 31, low32}, {word.Shl, 32, 1, 32, 1}, {word.Shl, 32, 3, 33, 6}, {word.Shl, 32, 3, 31, low32}, {word.Shl, 64, 1, 32, 1 << 32}, {word.Shl, 64, 1, 64, 1}, {word.Shl, 64, 1, 63, low64}, {word.Shl, 32, 5, 0, 5},
		{word.ShrS, 32, low32, 31, max32}, {word.ShrS, 32, low32, 0, low32}, {word.ShrS, 32, low32, 32, low32}, {word.ShrS, 32, low32 - 1, 30, 1}, {word.ShrS, 64, low64, 63, max64}, {word.ShrS, 64, low32, 31, 1}, {word.ShrS, 64, low64, 64, low64}, {word.ShrS, 64, low64, 65, 3 << 62},
		{word.ShrU, 32, low32, 31, 1}, {word.ShrU, 32, max64, 4, max32 >> 4}, {word.ShrU, 32, junk, 16, 0}, {word.ShrU, 64, low64, 63, 1}, {word.ShrU, 64, max64, 64, max64}, {word.ShrU, 32, 6, max32, 0}, {word.ShrU, 64, low64, max64, 1},
		{word.Rotl, 32, low32, 1, 1}, {word.Rotl, 32, low32 | 1, 0, low32 | 1}, {word.Rotl, 32, low32 | 1, 32, low32 | 1}, {word.Rotl, 32, low32 | 1, 33, 3}, {word.Rotl, 64, low64, 1, 1}, {word.Rotl, 64, low32, 1, 1 << 32}, {word.Rotl, 64, low64, 64, low64}, {word.Rotl, 64, 1, max64, low64},
		{word.Rotr, 32, 1, 1, low32}, {word.Rotr, 32, low32 | 1, 0, low32 | 1}, {word.Rotr, 32, low32 | 1, 32, low32 | 1}, {word.Rotr, 32, 3, 33, low32 | 1}, {word.Rotr, 64, 1, 1, low64}, {word.Rotr, 64, 1 << 32, 1, low32}, {word.Rotr, 64, 3, 64, 3}, {word.Rotr, 32, junk | 16, 4, 1},
	} {
		does(t, c.op, c.n, c.a, c.b, c.want, api.NoTrap)
	}
}

// TestTraps is of P5.1: of which divisions there is no word.
func TestTraps(t *testing.T) {
	for _, op := range []int{word.DivS, word.DivU, word.RemS, word.RemU} {
		for _, a := range []uint64{0, 1, low32, max32, low64, max64} {
			does(t, op, 32, a, 0, 0, api.DivZero)
			does(t, op, 64, a, 0, 0, api.DivZero)
			does(t, op, 32, a, junk, 0, api.DivZero)
		}
	}
	does(t, word.DivS, 32, low32, max32, 0, api.Overflow)
	does(t, word.DivS, 32, junk|low32, junk|max32, 0, api.Overflow)
	does(t, word.DivS, 64, low64, max64, 0, api.Overflow)
	does(t, word.DivS, 32, low32+1, max32, low32-1, api.NoTrap)
	does(t, word.DivS, 64, low64+1, max64, low64-1, api.NoTrap)
	does(t, word.DivS, 32, low32, max32-1, 1<<30, api.NoTrap)
	does(t, word.DivS, 64, low64, max64-1, 1<<62, api.NoTrap)
	does(t, word.DivS, 64, low32, max64, max64-low32+1, api.NoTrap)
	does(t, word.DivS, 32, low64, max32, 0, api.NoTrap)
}

// TestBinaryModel is of P5.1: all ops, held against whole numbers of any size.
func TestBinaryModel(t *testing.T) {
	for op := word.Add; op <= word.Rotr; op++ {
		for i, a := range more(60) {
			for _, b := range more(i % 8) {
				for _, n := range []int{32, 64} {
					want, trap := told(op, n, a, b)
					does(t, op, n, a, b, want, trap)
				}
			}
		}
	}
}

// TestDivision is of P5.2: a first number is its division, times the second one, and the rest.
func TestDivision(t *testing.T) {
	for _, ops := range [][2]int{{word.DivS, word.RemS}, {word.DivU, word.RemU}} {
		for _, a := range more(100) {
			for _, b := range more(10) {
				for _, n := range []int{32, 64} {
					q, trap, _ := word.Binary(ops[0], n, a, b)
					r, _, _ := word.Binary(ops[1], n, a, b)
					if trap != api.NoTrap {
						continue
					}
					v, _, _ := word.Binary(word.Mul, n, q, b)
					if v, _, e := word.Binary(word.Add, n, v, r); v != word.Cut(n, a) || e != api.OK {
						t.Errorf("%d bits, %#x by %#x: %#x, and %#x", n, a, b, q, r)
					}
				}
			}
		}
	}
}

// TestTest is of P5.1: what holds of two words, with a sign and without.
func TestTest(t *testing.T) {
	for _, c := range []struct {
		n    int
		a, b uint64
		want [10]uint64
	}{
		{32, 1, 1, [10]uint64{1, 0, 0, 0, 0, 0, 1, 1, 1, 1}},
		{32, 1, 2, [10]uint64{0, 1, 1, 1, 0, 0, 1, 1, 0, 0}},
		{32, 2, 1, [10]uint64{0, 1, 0, 0, 1, 1, 0, 0, 1, 1}},
		{32, max32, 0, [10]uint64{0, 1, 1, 0, 0, 1, 1, 0, 0, 1}},
		{32, low32 - 1, low32, [10]uint64{0, 1, 0, 1, 1, 0, 0, 1, 1, 0}},
		{32, junk | 1, 1, [10]uint64{1, 0, 0, 0, 0, 0, 1, 1, 1, 1}},
		{32, junk | 1, 2, [10]uint64{0, 1, 1, 1, 0, 0, 1, 1, 0, 0}},
		{64, junk | 1, 1, [10]uint64{0, 1, 1, 0, 0, 1, 1, 0, 0, 1}},
		{64, low64 - 1, low64, [10]uint64{0, 1, 0, 1, 1, 0, 0, 1, 1, 0}},
		{64, max64, max64, [10]uint64{1, 0, 0, 0, 0, 0, 1, 1, 1, 1}},
		{64, max32, 0, [10]uint64{0, 1, 0, 0, 1, 1, 0, 0, 1, 1}},
	} {
		for op, want := range c.want {
			if v, e := word.Test(op, c.n, c.a, c.b); v != want || e != api.OK {
				t.Errorf("Test(%d, %d, %#x, %#x): %d, %d", op, c.n, c.a, c.b, v, e)
			}
		}
	}
}

// TestTestModel is of P5.1: all tests, held against whole numbers of any size.
func TestTestModel(t *testing.T) {
	for op := word.Eq; op <= word.GeU; op++ {
		signed := op == word.LtS || op == word.GtS || op == word.LeS || op == word.GeS
		for _, a := range edges() {
			for _, b := range edges() {
				for _, n := range []int{32, 64} {
					c := whole(n, a, signed).Cmp(whole(n, b, signed))
					holds := [10]bool{c == 0, c != 0, c < 0, c < 0, c > 0, c > 0, c <= 0, c <= 0, c >= 0, c >= 0}[op]
					if v, e := word.Test(op, n, a, b); v > 1 || v == 1 != holds || e != api.OK {
						t.Errorf("Test(%d, %d, %#x, %#x): %d, %d", op, n, a, b, v, e)
					}
				}
			}
		}
	}
}

// TestUnary is of P5.1: what is told of a word.
func TestUnary(t *testing.T) {
	for _, c := range []struct {
		n    int
		a    uint64
		want [4]uint64
	}{
		{32, 0, [4]uint64{32, 32, 0, 1}}, {32, junk, [4]uint64{32, 32, 0, 1}}, {32, low64, [4]uint64{32, 32, 0, 1}},
		{32, max32, [4]uint64{0, 0, 32, 0}}, {32, max64, [4]uint64{0, 0, 32, 0}}, {32, 1, [4]uint64{31, 0, 1, 0}},
		{32, low32, [4]uint64{0, 31, 1, 0}}, {32, junk | 12, [4]uint64{28, 2, 2, 0}},
		{64, 0, [4]uint64{64, 64, 0, 1}}, {64, max64, [4]uint64{0, 0, 64, 0}}, {64, 1, [4]uint64{63, 0, 1, 0}},
		{64, low64, [4]uint64{0, 63, 1, 0}}, {64, max32, [4]uint64{32, 0, 32, 0}}, {64, 1 << 32, [4]uint64{31, 32, 1, 0}},
	} {
		for op, want := range c.want {
			if v, e := word.Unary(op, c.n, c.a); v != want || e != api.OK {
				t.Errorf("Unary(%d, %d, %#x): %d, %d, not %d", op, c.n, c.a, v, e, want)
			}
		}
	}
}

// TestUnaryModel is of P5.1: bits are counted one by one.
func TestUnaryModel(t *testing.T) {
	for _, a := range more(500) {
		for _, n := range []int{32, 64} {
			want := [4]uint64{uint64(n), uint64(n), 0, 1}
			for i := range n {
				if a>>i&1 == 1 {
					want = [4]uint64{uint64(n - 1 - i), min(want[1], uint64(i)), want[2] + 1, 0}
				}
			}
			for op := range want {
				if v, e := word.Unary(op, n, a); v != want[op] || e != api.OK {
					t.Errorf("Unary(%d, %d, %#x): %d, %d, not %d", op, n, a, v, e, want[op])
				}
			}
		}
	}
}

// wrong holds all three calls against ErrArg; an op below 0 isn't asked for.
func wrong(t *testing.T, binary, test, unary, n int, a, b uint64) {
	t.Helper()
	if v, p, e := word.Binary(binary, n, a, b); v != 0 || p != api.NoTrap || e != api.ErrArg {
		t.Errorf("Binary(%d, %d, %#x, %#x): %d, %d, %d", binary, n, a, b, v, p, e)
	}
	if v, e := word.Test(test, n, a, b); v != 0 || e != api.ErrArg {
		t.Errorf("Test(%d, %d, %#x, %#x): %d, %d", test, n, a, b, v, e)
	}
	if v, e := word.Unary(unary, n, a); v != 0 || e != api.ErrArg {
		t.Errorf("Unary(%d, %d, %#x): %d, %d", unary, n, a, v, e)
	}
}

// TestWrong is of P5.1: bits of which there are no words, and ops that there are not; ErrArg is told ahead of a trap.
func TestWrong(t *testing.T) {
	for _, a := range []uint64{0, 1, low32, max64} {
		for _, b := range []uint64{0, 3, max64} {
			for _, n := range none {
				for op := word.Add; op <= word.Rotr; op++ {
					wrong(t, op, op%10, op%4, n, a, b)
				}
				wrong(t, -1, -1, -1, n, a, b)
			}
			for _, n := range []int{32, 64} {
				for i, op := range beyond(15) {
					wrong(t, op, beyond(10)[i], beyond(4)[i], n, a, b)
				}
			}
		}
	}
}
