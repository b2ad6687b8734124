package op_test

import (
	"math"
	"slices"
	"strconv"
	"strings"
	"testing"

	"grommet/api"
	"grommet/op"
	"grommet/word"
)

// table is all ops by codes: a code, a name, a form, what it takes and, behind ->, what it gives.
const table = `
0 unreachable 0 ->
1 nop 0 ->
2 block 1 ->
3 loop 1 ->
4 if 1 ->
5 else 0 ->
11 end 0 ->
12 br 2 ->
13 br_if 2 ->
14 br_table 3 ->
15 return 0 ->
16 call 4 ->
17 call_indirect 5 ->
26 drop 0 ->
27 select 0 ->
32 local.get 6 ->
33 local.set 6 ->
34 local.tee 6 ->
35 global.get 7 ->
36 global.set 7 ->
40 i32.load 8 i32 -> i32
41 i64.load 8 i32 -> i64
44 i32.load8_s 8 i32 -> i32
45 i32.load8_u 8 i32 -> i32
46 i32.load16_s 8 i32 -> i32
47 i32.load16_u 8 i32 -> i32
48 i64.load8_s 8 i32 -> i64
49 i64.load8_u 8 i32 -> i64
50 i64.load16_s 8 i32 -> i64
51 i64.load16_u 8 i32 -> i64
52 i64.load32_s 8 i32 -> i64
53 i64.load32_u 8 i32 -> i64
54 i32.store 8 i32 i32 ->
55 i64.store 8 i32 i64 ->
58 i32.store8 8 i32 i32 ->
59 i32.store16 8 i32 i32 ->
60 i64.store8 8 i32 i64 ->
61 i64.store16 8 i32 i64 ->
62 i64.store32 8 i32 i64 ->
63 memory.size 9 -> i32
64 memory.grow 9 i32 -> i32
65 i32.const 11 -> i32
66 i64.const 11 -> i64
69 i32.eqz 0 i32 -> i32
70 i32.eq 0 i32 i32 -> i32
71 i32.ne 0 i32 i32 -> i32
72 i32.lt_s 0 i32 i32 -> i32
73 i32.lt_u 0 i32 i32 -> i32
74 i32.gt_s 0 i32 i32 -> i32
75 i32.gt_u 0 i32 i32 -> i32
76 i32.le_s 0 i32 i32 -> i32
77 i32.le_u 0 i32 i32 -> i32
78 i32.ge_s 0 i32 i32 -> i32
79 i32.ge_u 0 i32 i32 -> i32
80 i64.eqz 0 i64 -> i32
81 i64.eq 0 i64 i64 -> i32
82 i64.ne 0 i64 i64 -> i32
83 i64.lt_s 0 i64 i64 -> i32
84 i64.lt_u 0 i64 i64 -> i32
85 i64.gt_s 0 i64 i64 -> i32
86 i64.gt_u 0 i64 i64 -> i32
87 i64.le_s 0 i64 i64 -> i32
88 i64.le_u 0 i64 i64 -> i32
89 i64.ge_s 0 i64 i64 -> i32
90 i64.ge_u 0 i64 i64 -> i32
103 i32.clz 0 i32 -> i32
104 i32.ctz 0 i32 -> i32
105 i32.popcnt 0 i32 -> i32
106 i32.add 0 i32 i32 -> i32
107 i32.sub 0 i32 i32 -> i32
108 i32.mul 0 i32 i32 -> i32
109 i32.div_s 0 i32 i32 -> i32
110 i32.div_u 0 i32 i32 -> i32
111 i32.rem_s 0 i32 i32 -> i32
112 i32.rem_u 0 i32 i32 -> i32
113 i32.and 0 i32 i32 -> i32
114 i32.or 0 i32 i32 -> i32
115 i32.xor 0 i32 i32 -> i32
116 i32.shl 0 i32 i32 -> i32
117 i32.shr_s 0 i32 i32 -> i32
118 i32.shr_u 0 i32 i32 -> i32
119 i32.rotl 0 i32 i32 -> i32
120 i32.rotr 0 i32 i32 -> i32
121 i64.clz 0 i64 -> i64
122 i64.ctz 0 i64 -> i64
123 i64.popcnt 0 i64 -> i64
124 i64.add 0 i64 i64 -> i64
125 i64.sub 0 i64 i64 -> i64
126 i64.mul 0 i64 i64 -> i64
127 i64.div_s 0 i64 i64 -> i64
128 i64.div_u 0 i64 i64 -> i64
129 i64.rem_s 0 i64 i64 -> i64
130 i64.rem_u 0 i64 i64 -> i64
131 i64.and 0 i64 i64 -> i64
132 i64.or 0 i64 i64 -> i64
133 i64.xor 0 i64 i64 -> i64
134 i64.shl 0 i64 i64 -> i64
135 i64.shr_s 0 i64 i64 -> i64
136 i64.shr_u 0 i64 i64 -> i64
137 i64.rotl 0 i64 i64 -> i64
138 i64.rotr 0 i64 i64 -> i64
167 i32.wrap_i64 0 i64 -> i32
172 i64.extend_i32_s 0 i32 -> i64
173 i64.extend_i32_u 0 i32 -> i64
192 i32.extend8_s 0 i32 -> i32
193 i32.extend16_s 0 i32 -> i32
194 i64.extend8_s 0 i64 -> i64
195 i64.extend16_s 0 i64 -> i64
196 i64.extend32_s 0 i64 -> i64
64522 memory.copy 10 i32 i32 i32 ->
64523 memory.fill 9 i32 i32 i32 ->
`

// outside are the codes outside the profile, as the first and the last one of each row of them.
var outside = [][2]int{{28, 28}, {37, 37}, {38, 38}, {42, 42}, {43, 43}, {56, 56}, {57, 57}, {67, 67}, {68, 68}, {91, 102}, {139, 166}, {168, 171}, {174, 191}, {208, 210}, {253, 253}, {64512, 64521}, {64524, 64529}}

// far are codes that are far from all ops.
var far = []int{math.MinInt, math.MinInt + 40, math.MinInt + 106, math.MinInt32, -64522, -256, -106, -40, -1, 1 << 20, 1<<32 + 40, 1<<32 + 106, 1<<32 + 64522, math.MaxInt32, math.MaxInt - 1, math.MaxInt}

// codes are all that may be met, and some more.
func codes() []int {
	out := slices.Clone(far)
	for c := -300; c < 66000; c++ {
		out = append(out, c)
	}
	return out
}

// ops are those of the table.
func ops(t *testing.T) []op.Info {
	t.Helper()
	var out []op.Info
	for line := range strings.Lines(strings.TrimSpace(table)) {
		words := strings.Fields(line)
		arrow := slices.Index(words, "->")
		out = append(out, op.Info{Code: number(t, words[0]), Name: words[1], Form: number(t, words[2]), Takes: list(words[3:arrow]), Gives: list(words[arrow+1:])})
	}
	return out
}

func number(t *testing.T, s string) int {
	t.Helper()
	n, err := strconv.Atoi(s)
	if err != nil {
		t.Fatal(err)
	}
	return n
}

func list(names []string) []api.Type {
	var l []api.Type
	for _, n := range names {
		l = append(l, map[string]api.Type{"i32": api.I32, "i64": api.I64}[n])
	}
	return l
}

func same(a, b op.Info) bool {
	return a.Code == b.Code && a.Name == b.Name && a.Form == b.Form && slices.Equal(a.Takes, b.Takes) && slices.Equal(a.Gives, b.Gives)
}

// zero tells whether an op is none.
func zero(x op.Info) bool {
	return same(x, op.Info{}) && x.Takes == nil && x.Gives == nil
}

// TestConstants is of the chapter's words: forms count from 0 on, groups too.
func TestConstants(t *testing.T) {
	for i, form := range []int{op.None, op.Block, op.Label, op.Labels, op.Func, op.Sig, op.Local, op.Global, op.Mem, op.One, op.Two, op.Const} {
		if form != i {
			t.Errorf("form %d is %d", i, form)
		}
	}
	for i, group := range []int{op.GroupBinary, op.GroupTest, op.GroupUnary} {
		if group != i {
			t.Errorf("group %d is %d", i, group)
		}
	}
}

// TestFind is of P10.1: each code's op, and none of all others.
func TestFind(t *testing.T) {
	by := map[int]op.Info{}
	for _, x := range ops(t) {
		by[x.Code] = x
	}
	for _, c := range codes() {
		want, is := by[c]
		got, ok := op.Find(c)
		if ok != is || is && !same(got, want) || !is && !zero(got) {
			t.Errorf("Find(%d): %v, %t", c, got, ok)
		}
	}
}

// TestNamed is of P10.1: each name's op.
func TestNamed(t *testing.T) {
	for _, x := range ops(t) {
		if got, ok := op.Named(x.Name); !ok || !same(got, x) {
			t.Errorf("Named(%q): %v, %t", x.Name, got, ok)
		}
	}
}

// TestNamedWrong is of P10.1: what is nearly a name is none.
func TestNamedWrong(t *testing.T) {
	is := map[string]bool{}
	for _, x := range ops(t) {
		is[x.Name] = true
	}
	wrong := []string{
		"", " ", ".", "i32", "i32.", "i64.", "i32.i32.add", "add", ".add", "get", "local", "local.", "local.get set", "local.get set tee", "get set tee", "global.tee", "memory", "memory.", "memory.init", "memory.size grow", "size", "copy",
		"unreachable nop", "block loop if", "br br_if", "drop select", "i32.eq ne", "i32.eq i32.ne", "i32.clz ctz", "i32.eqz ", " i32.eqz", "i32.eqz\n", "I32.ADD", "Nop", "NOP", "i32 add", "i32_add", "i31.add", "i128.add", "f32.add", "f32.load", "f64.const", "v128.load",
		"i32.load32_s", "i32.load32_u", "i32.store32", "i32.load8", "i64.load32", "i32.load_s", "i32.extend32_s", "i32.extend_i32_s", "i64.wrap_i64", "i32.wrap_i32", "i64.extend_i32", "i32.lt", "i32.div", "i32.shr", "i32.min", "i64.eqz_s",
		"ref.null", "table.get", "table.set", "try", "throw", "call_ref", "return_call", "local.get 0", "i32.const 0", "br_table 0", "typed_select", "0", "106",
	}
	for name := range is {
		wrong = append(wrong, name+" ", " "+name, name+"\x00", name+"_", name+"s", "i32."+name, name+"."+name, name+" "+name, strings.ToUpper(name))
		for i := range name {
			wrong = append(wrong, name[:i], name[i+1:], name[:i]+name[i+1:], name[:i]+" "+name[i:], name[:i]+"x"+name[i+1:])
		}
	}
	wrong = append(wrong, strings.Repeat("i32.", 1<<20), strings.Repeat(" ", 1<<20), "i32."+strings.Repeat("add", 1<<20))
	for _, name := range wrong {
		if got, ok := op.Named(name); !is[name] && (ok || !zero(got)) {
			t.Errorf("Named(%.60q): %v, %t", name, got, ok)
		}
	}
}

// TestAll is of P10.1: all ops, by codes.
func TestAll(t *testing.T) {
	want, got := ops(t), op.All()
	if len(want) != 111 || !slices.EqualFunc(got, want, same) {
		t.Fatalf("All: %v", got)
	}
	for i := range got[1:] {
		if got[i].Code >= got[i+1].Code {
			t.Errorf("%d ahead of %d", got[i].Code, got[i+1].Code)
		}
	}
}

// TestNew is of rule 4: what is answered is new memory, and no two lists of it share any.
func TestNew(t *testing.T) {
	want := ops(t)
	for i := range want {
		for _, gives := range []bool{false, true} {
			all := op.All()
			spoil(&all[i], gives)
			found, _ := op.Find(want[i].Code)
			spoil(&found, gives)
			named, _ := op.Named(want[i].Name)
			spoil(&named, gives)
			for j, x := range all {
				if j == i {
					half(t, x, want[i], gives)
				} else if !same(x, want[j]) {
					t.Fatalf("%s shares with %s: %v", want[j].Name, want[i].Name, x)
				}
			}
			half(t, found, want[i], gives)
			half(t, named, want[i], gives)
		}
	}
	if got := op.All(); !slices.EqualFunc(got, want, same) {
		t.Errorf("All behind: %v", got)
	}
}

// spoil changes one list of an op, its spare room too.
func spoil(x *op.Info, gives bool) {
	l := x.Takes[:cap(x.Takes)]
	if gives {
		l = x.Gives[:cap(x.Gives)]
	}
	for i := range l {
		l[i] = 99
	}
}

// half holds the other list of an op that was spoilt.
func half(t *testing.T, x, want op.Info, gives bool) {
	t.Helper()
	if gives && !slices.Equal(x.Takes, want.Takes) || !gives && !slices.Equal(x.Gives, want.Gives) {
		t.Errorf("%s shares its lists: %v", want.Name, x)
	}
}

// TestForeign is of P10.1: just the codes that are outside the profile, of which none is an op's.
func TestForeign(t *testing.T) {
	is := map[int]bool{}
	for _, ends := range outside {
		for c := ends[0]; c <= ends[1]; c++ {
			is[c] = true
		}
	}
	for _, c := range codes() {
		if got := op.Foreign(c); got != is[c] {
			t.Errorf("Foreign(%d): %t", c, got)
		}
		if _, ok := op.Find(c); ok && op.Foreign(c) {
			t.Errorf("%d is an op, and outside the profile", c)
		}
	}
}

// TestWidth is of P10.1: the bits that a load's or a store's name tells, or else its type's.
func TestWidth(t *testing.T) {
	by := map[int]int{}
	for _, x := range ops(t) {
		if x.Form != op.Mem {
			continue
		}
		head, rest, _ := strings.Cut(x.Name, ".")
		bits := number(t, head[1:])
		if digits := strings.Trim(rest, "abcdefghijklmnopqrstuvwxyz_"); digits != "" {
			bits = number(t, digits)
		}
		by[x.Code] = bits / 8
	}
	if len(by) != 19 || by[40] != 4 || by[41] != 8 || by[44] != 1 || by[47] != 2 || by[53] != 4 || by[55] != 8 || by[58] != 1 || by[62] != 4 {
		t.Fatalf("the table's widths: %v", by)
	}
	for _, c := range codes() {
		if n, ok := op.Width(c); n != by[c] || ok != (by[c] != 0) {
			t.Errorf("Width(%d): %d, %t", c, n, ok)
		}
	}
}

// does is what layer 5 does for a name behind its type: a group, and a number.
func does(name string) ([2]int, bool) {
	d, ok := map[string][2]int{
		"add": {op.GroupBinary, word.Add}, "sub": {op.GroupBinary, word.Sub}, "mul": {op.GroupBinary, word.Mul}, "div_s": {op.GroupBinary, word.DivS}, "div_u": {op.GroupBinary, word.DivU},
		"rem_s": {op.GroupBinary, word.RemS}, "rem_u": {op.GroupBinary, word.RemU}, "and": {op.GroupBinary, word.And}, "or": {op.GroupBinary, word.Or}, "xor": {op.GroupBinary, word.Xor},
		"shl": {op.GroupBinary, word.Shl}, "shr_s": {op.GroupBinary, word.ShrS}, "shr_u": {op.GroupBinary, word.ShrU}, "rotl": {op.GroupBinary, word.Rotl}, "rotr": {op.GroupBinary, word.Rotr},
		"eq": {op.GroupTest, word.Eq}, "ne": {op.GroupTest, word.Ne}, "lt_s": {op.GroupTest, word.LtS}, "lt_u": {op.GroupTest, word.LtU}, "gt_s": {op.GroupTest, word.GtS},
		"gt_u": {op.GroupTest, word.GtU}, "le_s": {op.GroupTest, word.LeS}, "le_u": {op.GroupTest, word.LeU}, "ge_s": {op.GroupTest, word.GeS}, "ge_u": {op.GroupTest, word.GeU},
		"clz": {op.GroupUnary, word.Clz}, "ctz": {op.GroupUnary, word.Ctz}, "popcnt": {op.GroupUnary, word.Popcnt}, "eqz": {op.GroupUnary, word.Eqz},
	}[name]
	return d, ok
}

// TestNumeric is of P10.2: what layer 5 does for an op, by its name; nothing of all others.
func TestNumeric(t *testing.T) {
	by, many := map[int][3]int{}, 0
	for _, x := range ops(t) {
		head, rest, _ := strings.Cut(x.Name, ".")
		if d, ok := does(rest); ok && (head == "i32" || head == "i64") {
			by[x.Code] = [3]int{d[0], d[1], number(t, head[1:])}
			many++
		}
	}
	if many != 2*(15+10+4) {
		t.Fatalf("%d ops of the table are numeric", many)
	}
	for _, c := range codes() {
		want, is := by[c]
		group, n, bits, ok := op.Numeric(c)
		if got := [3]int{group, n, bits}; got != want || ok != is {
			t.Errorf("Numeric(%d): %v, %t, not %v", c, got, ok, want)
		}
	}
}

// TestNumericDone is of P10.2: layer 5 does all that Numeric tells, of as many words as the op takes.
func TestNumericDone(t *testing.T) {
	for _, x := range op.All() {
		group, n, bits, ok := op.Numeric(x.Code)
		if !ok {
			continue
		}
		takes, e := 2, api.ErrNone
		switch group {
		case op.GroupBinary:
			_, _, e = word.Binary(n, bits, 7, 3)
		case op.GroupTest:
			_, e = word.Test(n, bits, 7, 3)
		case op.GroupUnary:
			_, e = word.Unary(n, bits, 7)
			takes = 1
		}
		if e != api.OK || len(x.Takes) != takes || len(x.Gives) != 1 {
			t.Errorf("%s: %d, takes %v, gives %v", x.Name, e, x.Takes, x.Gives)
		}
	}
}
