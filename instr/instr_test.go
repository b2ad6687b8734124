package instr_test

import (
	"math"
	"slices"
	"strings"
	"testing"

	"grommet/api"
	"grommet/instr"
	"grommet/op"
)

const (
	max32 = 1<<32 - 1
	max64 = 1<<64 - 1
)

// example is an instruction, its bytes, and its text.
type example struct {
	x     instr.Instr
	bytes string
	text  string
}

// examples are instructions of each form, with numbers at the edges.
func examples() []example {
	many := make([]uint64, 100)
	for i := range many {
		many[i] = max32
	}
	return []example{
		{instr.Instr{}, "\x00", "unreachable"},
		{instr.Instr{Code: 1}, "\x01", "nop"},
		{instr.Instr{Code: 2, A: 64}, "\x02\x40", "block"},
		{instr.Instr{Code: 2, A: 127}, "\x02\x7f", "block i32"},
		{instr.Instr{Code: 3, A: 126}, "\x03\x7e", "loop i64"},
		{instr.Instr{Code: 3, A: 64}, "\x03\x40", "loop"},
		{instr.Instr{Code: 4, A: 64}, "\x04\x40", "if"},
		{instr.Instr{Code: 4, A: 127}, "\x04\x7f", "if i32"},
		{instr.Instr{Code: 5}, "\x05", "else"},
		{instr.Instr{Code: 11}, "\x0b", "end"},
		{instr.Instr{Code: 12}, "\x0c\x00", "br 0"},
		{instr.Instr{Code: 12, A: 127}, "\x0c\x7f", "br 127"},
		{instr.Instr{Code: 13, A: 128}, "\x0d\x80\x01", "br_if 128"},
		{instr.Instr{Code: 13, A: max32}, "\x0d\xff\xff\xff\xff\x0f", "br_if 4294967295"},
		{instr.Instr{Code: 14}, "\x0e\x00\x00", "br_table 0"},
		{instr.Instr{Code: 14, A: 300}, "\x0e\x00\xac\x02", "br_table 300"},
		{instr.Instr{Code: 14, A: 5, L: []uint64{7}}, "\x0e\x01\x07\x05", "br_table 7 5"},
		{instr.Instr{Code: 14, A: 1, L: []uint64{2, 200, 0}}, "\x0e\x03\x02\xc8\x01\x00\x01", "br_table 2 200 0 1"},
		{instr.Instr{Code: 14, A: max32, L: many}, "\x0e\x64" + strings.Repeat("\xff\xff\xff\xff\x0f", 101), "br_table" + strings.Repeat(" 4294967295", 101)},
		{instr.Instr{Code: 15}, "\x0f", "return"},
		{instr.Instr{Code: 16, A: 99}, "\x10\x63", "call 99"},
		{instr.Instr{Code: 17, A: 3}, "\x11\x03\x00", "call_indirect 3 0"},
		{instr.Instr{Code: 17, A: 130, B: 1}, "\x11\x82\x01\x01", "call_indirect 130 1"},
		{instr.Instr{Code: 17, A: max32, B: max32}, "\x11\xff\xff\xff\xff\x0f\xff\xff\xff\xff\x0f", "call_indirect 4294967295 4294967295"},
		{instr.Instr{Code: 26}, "\x1a", "drop"},
		{instr.Instr{Code: 27}, "\x1b", "select"},
		{instr.Instr{Code: 32, A: 49}, "\x20\x31", "local.get 49"},
		{instr.Instr{Code: 33, A: 1000}, "\x21\xe8\x07", "local.set 1000"},
		{instr.Instr{Code: 34}, "\x22\x00", "local.tee 0"},
		{instr.Instr{Code: 35, A: 1}, "\x23\x01", "global.get 1"},
		{instr.Instr{Code: 36, A: max32}, "\x24\xff\xff\xff\xff\x0f", "global.set 4294967295"},
		{instr.Instr{Code: 40, A: 1, B: 8, Align: 2}, "\x28\x42\x01\x08", "i32.load 1 8 2"},
		{instr.Instr{Code: 40}, "\x28\x00\x00", "i32.load 0 0 0"},
		{instr.Instr{Code: 41, B: 128, Align: 3}, "\x29\x03\x80\x01", "i64.load 0 128 3"},
		{instr.Instr{Code: 53, A: 128, B: max64, Align: 31}, "\x35\x5f\x80\x01\xff\xff\xff\xff\xff\xff\xff\xff\xff\x01", "i64.load32_u 128 18446744073709551615 31"},
		{instr.Instr{Code: 54, B: max32, Align: 31}, "\x36\x1f\xff\xff\xff\xff\x0f", "i32.store 0 4294967295 31"},
		{instr.Instr{Code: 62, A: max32, B: 1 << 32}, "\x3e\x40\xff\xff\xff\xff\x0f\x80\x80\x80\x80\x10", "i64.store32 4294967295 4294967296 0"},
		{instr.Instr{Code: 63}, "\x3f\x00", "memory.size 0"},
		{instr.Instr{Code: 64, A: 3}, "\x40\x03", "memory.grow 3"},
		{instr.Instr{Code: 65}, "\x41\x00", "i32.const 0"},
		{instr.Instr{Code: 65, A: 63}, "\x41\x3f", "i32.const 63"},
		{instr.Instr{Code: 65, A: 64}, "\x41\xc0\x00", "i32.const 64"},
		{instr.Instr{Code: 65, A: max32}, "\x41\x7f", "i32.const -1"},
		{instr.Instr{Code: 65, A: max32 - 63}, "\x41\x40", "i32.const -64"},
		{instr.Instr{Code: 65, A: 1<<31 - 1}, "\x41\xff\xff\xff\xff\x07", "i32.const 2147483647"},
		{instr.Instr{Code: 65, A: 1 << 31}, "\x41\x80\x80\x80\x80\x78", "i32.const -2147483648"},
		{instr.Instr{Code: 66}, "\x42\x00", "i64.const 0"},
		{instr.Instr{Code: 66, A: max64}, "\x42\x7f", "i64.const -1"},
		{instr.Instr{Code: 66, A: max32}, "\x42\xff\xff\xff\xff\x0f", "i64.const 4294967295"},
		{instr.Instr{Code: 66, A: 1 << 31}, "\x42\x80\x80\x80\x80\x08", "i64.const 2147483648"},
		{instr.Instr{Code: 66, A: 1<<63 - 1}, "\x42\xff\xff\xff\xff\xff\xff\xff\xff\xff\x00", "i64.const 9223372036854775807"},
		{instr.Instr{Code: 66, A: 1 << 63}, "\x42\x80\x80\x80\x80\x80\x80\x80\x80\x80\x7f", "i64.const -9223372036854775808"},
		{instr.Instr{Code: 69}, "\x45", "i32.eqz"},
		{instr.Instr{Code: 106}, "\x6a", "i32.add"},
		{instr.Instr{Code: 167}, "\xa7", "i32.wrap_i64"},
		{instr.Instr{Code: 196}, "\xc4", "i64.extend32_s"},
		{instr.Instr{Code: 64522}, "\xfc\x0a\x00\x00", "memory.copy 0 0"},
		{instr.Instr{Code: 64522, A: 1, B: 128}, "\xfc\x0a\x01\x80\x01", "memory.copy 1 128"},
		{instr.Instr{Code: 64522, A: max32, B: max32}, "\xfc\x0a\xff\xff\xff\xff\x0f\xff\xff\xff\xff\x0f", "memory.copy 4294967295 4294967295"},
		{instr.Instr{Code: 64523, A: 2}, "\xfc\x0b\x02", "memory.fill 2"},
	}
}

// zero tells whether an instruction is the zero one, without a list.
func zero(x instr.Instr) bool {
	return x.L == nil && instr.Same(x, instr.Instr{})
}

// is tells whether all fields are the same; it leans on nothing of the package.
func is(a, b instr.Instr) bool {
	return a.Code == b.Code && a.A == b.A && a.B == b.B && a.Align == b.Align && slices.Equal(a.L, b.L)
}

// may tells by the chapter's words whether an instruction, of an op of that form, may be.
func may(x instr.Instr, form int) bool {
	const any = math.MaxUint64
	switch form {
	case op.None:
		return only(x, 0, 0, 0, 0)
	case op.Block:
		return only(x, any, 0, 0, 0) && (x.A == 64 || x.A == 126 || x.A == 127)
	case op.Labels:
		return only(x, max32, 0, 0, 100)
	case op.Sig, op.Two:
		return only(x, max32, max32, 0, 0)
	case op.Mem:
		return only(x, max32, any, 31, 0)
	case op.Const:
		return only(x, map[int]uint64{65: max32, 66: any}[x.Code], 0, 0, 0)
	}
	return only(x, max32, 0, 0, 0)
}

// only tells whether numbers are no greater than these, and whether there are no more labels.
func only(x instr.Instr, a, b uint64, align, labels int) bool {
	for _, n := range x.L {
		if n > max32 {
			return false
		}
	}
	return x.A <= a && x.B <= b && x.Align >= 0 && x.Align <= align && len(x.L) <= labels
}

// lists are lists of labels: none, few, many, too many, and such as may not be.
func lists() [][]uint64 {
	hundred := make([]uint64, 100)
	return [][]uint64{nil, {}, {0}, {max32}, {1 << 32}, {3, max64, 2}, {0, 1, max32 + 1}, hundred, make([]uint64, 101), append(slices.Clone(hundred[1:]), 1<<32)}
}

var numbers = []uint64{0, 1, 63, 64, 65, 125, 126, 127, 128, 192, 255, 256, 256 + 64, 256 + 127, 1<<31 - 1, 1 << 31, max32, 1 << 32, 1<<32 + 64, 1<<32 + 127, 1 << 63, max64 - 127, max64 - 63, max64}

// TestRight is of P11.1 and P11.2: of each op, with numbers that it has and hasn't, at their edges; of one that isn't right there are no bytes and no text.
func TestRight(t *testing.T) {
	lists := lists()
	for _, info := range op.All() {
		for _, a := range numbers {
			for _, b := range []uint64{0, 1, max32, 1 << 32, max64} {
				for _, align := range []int{math.MinInt, -1, 0, 1, 31, 32, 64, math.MaxInt} {
					for _, l := range lists[:min(4, len(lists))] {
						right(t, instr.Instr{Code: info.Code, A: a, B: b, Align: align, L: l}, info.Form)
					}
				}
			}
			for _, l := range lists {
				right(t, instr.Instr{Code: info.Code, A: a, L: l}, info.Form)
			}
		}
	}
}

// right holds Right, Encode and Print against what may be.
func right(t *testing.T, x instr.Instr, form int) {
	t.Helper()
	want := may(x, form)
	if x.Right() != want {
		t.Fatalf("Right of %v: %t", x, !want)
	}
	b, e := x.Encode()
	if want != (e == api.OK) || want != (len(b) > 0) || !want && (b != nil || e != api.ErrArg) {
		t.Fatalf("Encode of %v: %v, %d", x, b, e)
	}
	if s := x.Print(); want != (s != "") {
		t.Fatalf("Print of %v: %q", x, s)
	}
}

// TestRightCodes is of P11.1: codes that are no op's, outside the profile and all others.
func TestRightCodes(t *testing.T) {
	codes := []int{math.MinInt, math.MinInt + 106, math.MinInt32, -64522, -256 + 1, -1, 1 << 20, 1<<32 + 1, 1<<32 + 106, math.MaxInt}
	for c := -300; c < 66000; c++ {
		codes = append(codes, c)
	}
	for _, c := range codes {
		if _, ok := op.Find(c); !ok {
			for _, a := range []uint64{0, 64} {
				x := instr.Instr{Code: c, A: a}
				b, e := x.Encode()
				if x.Right() || b != nil || e != api.ErrArg || x.Print() != "" {
					t.Errorf("%v: %t, %v, %d, %q", x, x.Right(), b, e, x.Print())
				}
			}
		}
	}
}

// TestSame is of P11.2: all numbers are held against each other, of instructions that aren't right, too; no list is the same as one without elements.
func TestSame(t *testing.T) {
	all := []instr.Instr{{}, {Code: 1}, {Code: -1}, {A: 1}, {A: 1 << 40}, {B: 1}, {B: 1 << 40}, {Align: 1}, {Align: -1}, {L: []uint64{0}}, {L: []uint64{0, 0}}, {L: []uint64{1}}, {L: []uint64{1, 0}}, {L: []uint64{0, 1}},
		{Code: 1, A: 2, B: 3, Align: 4, L: []uint64{5}}, {Code: 2, A: 1, B: 3, Align: 4, L: []uint64{5}}, {Code: 1, A: 3, B: 2, Align: 4, L: []uint64{5}}, {Code: 1, A: 2, B: 4, Align: 3, L: []uint64{5}}, {Code: 1, A: 2, B: 3, Align: 4, L: []uint64{6}}, {Code: 1, A: 2, B: 3, Align: 4}}
	for i, a := range all {
		for j, b := range all {
			if instr.Same(a, b) != (i == j) {
				t.Errorf("Same(%v, %v)", a, b)
			}
		}
		again := a
		again.L = slices.Clone(a.L)
		if !instr.Same(a, again) {
			t.Errorf("%v isn't as its copy", a)
		}
	}
	if !instr.Same(instr.Instr{Code: 14}, instr.Instr{Code: 14, L: []uint64{}}) || !instr.Same(instr.Instr{Code: 14, L: make([]uint64, 0, 9)}, instr.Instr{Code: 14}) {
		t.Error("no list isn't as one without elements")
	}
}

// TestStays is of rule 4: what is handed in stays as it was, its spare room too, and what is answered is new.
func TestStays(t *testing.T) {
	room := []uint64{1, 2, 3, 4, 5, 6}
	x := instr.Instr{Code: 14, A: 9, L: room[:3]}
	b, _ := x.Encode()
	x.Print()
	x.Right()
	instr.Same(x, x)
	if !slices.Equal(room, []uint64{1, 2, 3, 4, 5, 6}) {
		t.Errorf("labels were changed: %v", room)
	}
	clear(b)
	if b, _ := x.Encode(); string(b) != "\x0e\x03\x01\x02\x03\x09" {
		t.Errorf("bytes that were answered were changed: %v", b)
	}
	first, _ := instr.Parse("br_table 1 2 3")
	first.L[0] = 7
	if again, _ := instr.Parse("br_table 1 2 3"); again.L[0] != 1 {
		t.Errorf("labels that were answered were changed: %v", again)
	}
	bytes := []byte("\x0e\x02\x01\x02\x03\x0e\x01\x01\x02")
	l, _, _ := instr.All(bytes)
	_ = append(l[0].L, 9)
	l[0].L[0] = 7
	if l[1].L[0] != 1 || string(bytes) != "\x0e\x02\x01\x02\x03\x0e\x01\x01\x02" {
		t.Errorf("labels of another one were changed: %v, %v", l, bytes)
	}
	clear(bytes)
	if l[1].L[0] != 1 || l[1].A != 2 {
		t.Errorf("bytes that were handed in are kept: %v", l)
	}
}
