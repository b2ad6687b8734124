package numeric_test

import (
	"math"
	"testing"

	"grommet/api"
	"grommet/numeric"
	"grommet/op"
	"grommet/word"
)

// words are some that are next to where something changes.
var words = []uint64{0, 1, 2, 3, 31, 32, 33, 63, 64, 127, 128, 255, 256, 32767, 32768, 65535, 65536, 1<<31 - 1, 1 << 31, 1<<31 + 1, math.MaxUint32 - 1, math.MaxUint32, 1 << 32, 1<<32 + 1, 1<<63 - 1, 1 << 63, 1<<63 + 128, math.MaxUint64 - 1, math.MaxUint64}

// widths are what the instructions do that let a word be of another width.
var widths = map[int]func(a uint64) uint64{
	167: func(a uint64) uint64 { return uint64(uint32(a)) },
	172: func(a uint64) uint64 { return uint64(int32(a)) },
	173: func(a uint64) uint64 { return uint64(uint32(a)) },
	192: func(a uint64) uint64 { return uint64(uint32(int8(a))) },
	193: func(a uint64) uint64 { return uint64(uint32(int16(a))) },
	194: func(a uint64) uint64 { return uint64(int8(a)) },
	195: func(a uint64) uint64 { return uint64(int16(a)) },
	196: func(a uint64) uint64 { return uint64(int32(a)) },
}

// numerical tells whether an instruction takes words alone, and gives one: all of them have codes between a first and a last one.
func numerical(code int) bool {
	return 69 <= code && code <= 196
}

// TestTakes holds how many words an instruction takes against what its op takes.
func TestTakes(t *testing.T) {
	for code := range 300 {
		info, _ := op.Find(code)
		want := len(info.Takes)
		if !numerical(code) {
			want = 0
		}
		if n := numeric.Takes(code); n != want {
			t.Errorf("Takes(%d): %d, not %d", code, n, want)
		}
	}
	for _, code := range []int{math.MinInt, -1, -69, 64522, 64523, math.MaxInt} {
		if n := numeric.Takes(code); n != 0 {
			t.Errorf("Takes(%d): %d", code, n)
		}
	}
}

// TestOne holds what instructions give of a word.
func TestOne(t *testing.T) {
	for code := range 300 {
		group, number, bits, ok := op.Numeric(code)
		for _, a := range words {
			v, e := numeric.One(code, a)
			want, wrong := uint64(0), api.ErrArg
			if does := widths[code]; does != nil {
				want, wrong = does(a), api.OK
			} else if ok && group == op.GroupUnary {
				want, wrong = word.Unary(number, bits, a)
			}
			if v != want || e != wrong {
				t.Errorf("One(%d, %d): %d, %d, not %d, %d", code, a, v, e, want, wrong)
			}
		}
	}
}

// TestTwo holds what instructions give of two words, and by what they trap.
func TestTwo(t *testing.T) {
	traps := 0
	for code := range 300 {
		group, number, bits, ok := op.Numeric(code)
		for _, a := range words {
			for _, b := range words {
				v, trap, e := numeric.Two(code, a, b)
				want, by, wrong := uint64(0), api.NoTrap, api.ErrArg
				if ok && group == op.GroupBinary {
					want, by, wrong = word.Binary(number, bits, a, b)
				} else if ok && group == op.GroupTest {
					want, wrong = word.Test(number, bits, a, b)
				}
				if v != want || trap != by || e != wrong {
					t.Errorf("Two(%d, %d, %d): %d, %d, %d, not %d, %d, %d", code, a, b, v, trap, e, want, by, wrong)
				}
				if trap != api.NoTrap {
					traps++
				}
			}
		}
	}
	if traps == 0 {
		t.Error("nothing traps")
	}
}
