package plain_test

import (
	"math/bits"
	"slices"
	"strings"
	"testing"

	"grommet/instr"
	"grommet/op"
	"grommet/plain"
)

// word is what an instruction of a name gives of the words of Consts, and its type; none of what traps, or takes other words.
func word(name string, l ...uint64) (string, uint64, bool) {
	kind, does, _ := strings.Cut(name, ".")
	n := map[string]int{"i32": 32, "i64": 64}[kind]
	switch {
	case n == 0:
	case len(l) == 1:
		return one(kind, does, n, l[0])
	default:
		if v, ok := test(does, n, cut(n, l[0]), cut(n, l[1])); ok {
			return "i32", v, true
		}
		v, ok := binary(does, n, cut(n, l[0]), cut(n, l[1]))
		return kind, cut(n, v), ok
	}
	return "", 0, false
}

// cut is a word's low bits.
func cut(n int, a uint64) uint64 {
	return a << (64 - n) >> (64 - n)
}

// sign is a word as a number with a sign.
func sign(n int, a uint64) int64 {
	return int64(a<<(64-n)) >> (64 - n)
}

func one(kind, does string, n int, a uint64) (string, uint64, bool) {
	low := cut(n, a)
	switch does {
	case "eqz":
		return "i32", truth(low == 0), true
	case "clz":
		return kind, uint64(bits.LeadingZeros64(low) - 64 + n), true
	case "ctz":
		return kind, uint64(min(n, bits.TrailingZeros64(low))), true
	case "popcnt":
		return kind, uint64(bits.OnesCount64(low)), true
	case "wrap_i64":
		return kind, cut(32, a), true
	case "extend_i32_u":
		return kind, cut(32, a), true
	case "extend_i32_s", "extend32_s":
		return kind, cut(n, uint64(sign(32, a))), true
	case "extend16_s":
		return kind, cut(n, uint64(sign(16, a))), true
	case "extend8_s":
		return kind, cut(n, uint64(sign(8, a))), true
	}
	return "", 0, false
}

func truth(b bool) uint64 {
	if b {
		return 1
	}
	return 0
}

func test(does string, n int, a, b uint64) (uint64, bool) {
	s, u := sign(n, a), sign(n, b)
	switch does {
	case "eq":
		return truth(a == b), true
	case "ne":
		return truth(a != b), true
	case "lt_s":
		return truth(s < u), true
	case "lt_u":
		return truth(a < b), true
	case "gt_s":
		return truth(s > u), true
	case "gt_u":
		return truth(a > b), true
	case "le_s":
		return truth(s <= u), true
	case "le_u":
		return truth(a <= b), true
	case "ge_s":
		return truth(s >= u), true
	case "ge_u":
		return truth(a >= b), true
	}
	return 0, false
}

func binary(does string, n int, a, b uint64) (uint64, bool) {
	by := int(b % uint64(n))
	switch does {
	case "add":
		return a + b, true
	case "sub":
		return a - b, true
	case "mul":
		return a * b, true
	case "and":
		return a & b, true
	case "or":
		return a | b, true
	case "xor":
		return a ^ b, true
	case "shl":
		return a << by, true
	case "shr_s":
		return uint64(sign(n, a) >> by), true
	case "shr_u":
		return a >> by, true
	case "rotl":
		return a<<by | a>>(n-by), true
	case "rotr":
		return a>>by | a<<(n-by), true
	}
	return divided(does, n, a, b)
}

func divided(does string, n int, a, b uint64) (uint64, bool) {
	over := a == 1<<(n-1) && sign(n, b) == -1
	switch {
	case b == 0:
	case does == "div_u":
		return a / b, true
	case does == "rem_u":
		return a % b, true
	case does == "div_s" && !over:
		return uint64(sign(n, a) / sign(n, b)), true
	case does == "rem_s" && over:
		return 0, true
	case does == "rem_s":
		return uint64(sign(n, a) % sign(n, b)), true
	}
	return 0, false
}

// names are those of ops, by codes.
var names = func() map[int]string {
	m := map[int]string{}
	for _, info := range op.All() {
		m[info.Code] = info.Name
	}
	return m
}()

// name is an instruction's op's.
func name(l []instr.Instr, i int) string {
	if i >= len(l) {
		return ""
	}
	return names[l[i].Code]
}

func among(name, l string) bool {
	return name != "" && slices.Contains(strings.Fields(l), name)
}

// slowly is a row behind its first step, and its number, place by place and step by step, as the chapter's words tell it.
func slowly(l []instr.Instr) ([]instr.Instr, int) {
	const consts = "i32.const i64.const"
	for i, x := range l {
		behind := func(n int) string { return name(l, i+n) }
		becomes := func(n int, put ...instr.Instr) []instr.Instr { return slices.Concat(l[:i], put, l[i+n:]) }
		for step := 1; step <= 6; step++ {
			switch {
			case step == 1 && behind(0) == "nop":
				return becomes(1), step
			case step == 2 && among(behind(0), consts):
				if kind, v, ok := word(behind(1), x.A); ok {
					return becomes(2, constant(kind, v)), step
				}
			case step == 3 && among(behind(0), consts) && among(behind(1), consts):
				if kind, v, ok := word(behind(2), x.A, l[i+1].A); ok {
					return becomes(3, constant(kind, v)), step
				}
			case step == 4 && among(behind(0), consts+" local.get global.get") && behind(1) == "drop":
				return becomes(2), step
			case step == 5 && behind(0) == "local.set" && behind(1) == "local.get" && l[i+1].A == x.A:
				return becomes(2, instr.Instr{Code: 34, A: x.A}), step
			case step == 6 && among(behind(0), "unreachable br br_table return") && i+1 < len(l) && !among(behind(1), "else end block loop if"):
				return becomes(2, x), step
			}
		}
	}
	return l, 0
}

// constant is the Const of a type.
func constant(kind string, v uint64) instr.Instr {
	return instr.Instr{Code: map[string]int{"i32": 65, "i64": 66}[kind], A: v}
}

// all is steps till none can be done, and how many there were of each number.
func all(l []instr.Instr, count *[7]int) []instr.Instr {
	for {
		next, n := slowly(l)
		count[n]++
		if n == 0 {
			return l
		}
		l = next
	}
}

// against holds a row's first step, and all of them, against the chapter's words.
func against(t *testing.T, l []instr.Instr, count *[7]int) {
	t.Helper()
	was := slices.Clone(l)
	want, by := slowly(l)
	if got, n := plain.Step(l); n != by || !same(got, want) {
		t.Fatalf("Step of %s: %s, %d, not %s, %d", told(l), told(got), n, told(want), by)
	}
	body, most := plain.Body(l), all(l, count)
	if !same(body, most) {
		t.Fatalf("Body of %s: %s, not %s", told(l), told(body), told(most))
	}
	if next, n := plain.Step(body); n != 0 || !same(next, body) {
		t.Fatalf("then Step of %s: %s, %d", told(body), told(next), n)
	}
	if !same(l, was) {
		t.Fatalf("%s is %s now", told(was), told(l))
	}
}

// every is an instruction of each op, with some numbers, and of codes that no op has.
func every() []instr.Instr {
	var l []instr.Instr
	for _, info := range op.All() {
		x := instr.Instr{Code: info.Code}
		switch info.Form {
		case op.None:
		case op.Block:
			x.A = 64
		case op.Labels:
			x.A, x.L = 1, []uint64{2, 3}
		case op.Mem:
			x.A, x.B, x.Align = 1, 5, 1
		default:
			x.A = 1
		}
		l = append(l, x)
	}
	return append(l, instr.Instr{Code: -1}, instr.Instr{Code: 67}, instr.Instr{Code: 64600}, instr.Instr{Code: 28})
}

// edges are Consts next to where something changes.
func edges() []instr.Instr {
	var l []instr.Instr
	for _, v := range []uint64{0, 1, 3, 31, 32, 63, 64, 127, 128, 32768, 1<<31 - 1, 1 << 31, 1<<32 - 1} {
		l = append(l, constant("i32", v), constant("i64", v))
	}
	for _, v := range []uint64{1 << 32, 1<<63 - 1, 1 << 63, 1<<64 - 1, 1<<64 - 128, 1<<64 - 1<<31} {
		l = append(l, constant("i64", v))
	}
	return l
}

// TestPairs is of P23.1: each two instructions, alone, and behind a Const; and each one behind two Consts.
func TestPairs(t *testing.T) {
	var count [7]int
	l := every()
	for _, x := range l {
		for _, y := range l {
			against(t, []instr.Instr{x, y}, &count)
			against(t, []instr.Instr{constant("i64", 1<<64-5), x, y}, &count)
		}
		for _, a := range edges() {
			for _, b := range edges() {
				against(t, []instr.Instr{a, b, x}, &count)
			}
		}
	}
	for n, least := range [...]int{0, 300, 1000, 10000, 1000, 2, 300} {
		if count[n] < least {
			t.Errorf("the step %d: %d times", n, count[n])
		}
	}
}

// chance is numbers that are as good as any, the same ones each time.
type chance uint64

// below is a number below n.
func (c *chance) below(n int) int {
	*c = *c*6364136223846793005 + 1442695040888963407
	return int(uint64(*c) >> 33 % uint64(n))
}

// parts are rows of which longer ones are made, so that steps follow one another.
const parts = `nop|nop|nop; nop|drop|drop|end|else|block|if|loop|return|unreachable|br 0|br_if 0|br_table 0 1
i32.const 0|i32.const 1|i32.const -1|i32.const 7|i32.const -2147483648|i32.const 40
i32.const 2|i32.const 3|i32.const 5; i32.const 6|i64.const 0|i64.const -1|i64.const 5; i64.const 9
i32.add|i32.sub|i32.mul|i32.div_s|i32.rem_u|i32.shl|i32.lt_s|i32.eq|i32.eqz|i32.clz|i32.extend8_s|i32.wrap_i64
i64.add|i64.xor|i64.div_u|i64.rem_s|i64.shr_s|i64.gt_u|i64.eqz|i64.popcnt|i64.extend_i32_s|i64.extend_i32_u
local.get 0|local.get 1|local.set 0|local.set 1|local.set 0; local.get 0|local.tee 0|global.get 0|global.set 0|local.set 1; nop; local.get 1
select|call 0|i32.load 0 0 0|memory.size 0|i32.const 3; drop|local.get 0; drop|i32.const 2; i32.const 2; i32.add|i32.add; i32.eqz`

// TestRows is of P23.1: any rows.
func TestRows(t *testing.T) {
	var some [][][]instr.Instr
	for _, line := range strings.Split(parts, "\n") {
		var l [][]instr.Instr
		for _, s := range strings.Split(line, "|") {
			l = append(l, row(t, s))
		}
		some = append(some, l)
	}
	c := chance(23)
	var count [7]int
	for range 12000 {
		var l []instr.Instr
		for range c.below(25) {
			line := some[c.below(len(some))]
			l = append(l, line[c.below(len(line))]...)
		}
		against(t, l, &count)
	}
	for n, least := range [...]int{0, 4000, 2000, 2000, 2000, 800, 8000} {
		if count[n] < least {
			t.Errorf("the step %d: %d times", n, count[n])
		}
	}
}
