package plain_test

import (
	"math"
	"slices"
	"strings"
	"testing"

	"grommet/api"
	"grommet/instr"
	"grommet/plain"
)

// row is instructions' texts, with ; between.
func row(t *testing.T, s string) []instr.Instr {
	t.Helper()
	var l []instr.Instr
	for _, x := range strings.Split(s, "; ") {
		if s == "" {
			break
		}
		in, e := instr.Parse(x)
		if e != api.OK {
			t.Fatalf("Parse of %q: %d", x, e)
		}
		l = append(l, in)
	}
	return l
}

// told is instructions' texts.
func told(l []instr.Instr) string {
	var texts []string
	for _, x := range l {
		texts = append(texts, x.Print())
	}
	return strings.Join(texts, "; ")
}

// same tells whether two rows have the same instructions, number by number.
func same(a, b []instr.Instr) bool {
	return slices.EqualFunc(a, b, func(x, y instr.Instr) bool {
		return x.Code == y.Code && x.A == y.A && x.B == y.B && x.Align == y.Align && slices.Equal(x.L, y.L)
	})
}

// holds holds what comes of a row's first step, with other instructions ahead of it and behind it, too, and that the row is let be.
func holds(t *testing.T, l, want []instr.Instr, n int) {
	t.Helper()
	for _, ahead := range []string{"", "i32.add; end"} {
		for _, behind := range []string{"", "end; else"} {
			first, last := row(t, ahead), row(t, behind)
			all, goal := slices.Concat(first, l, last), slices.Concat(first, want, last)
			was := slices.Clone(all)
			if got, by := plain.Step(all); !same(got, goal) || by != n {
				t.Errorf("Step of %s: %s, %d, not %s, %d", told(all), told(got), by, told(goal), n)
			}
			if !same(all, was) {
				t.Errorf("Step of %s changes it: %s", told(was), told(all))
			}
		}
	}
}

// steps holds rows by their texts.
func steps(t *testing.T, n int, cases map[string]string) {
	t.Helper()
	for s, want := range cases {
		holds(t, row(t, s), row(t, want), n)
	}
}

// none holds rows in which nothing can be done.
func none(t *testing.T, cases ...string) {
	t.Helper()
	for _, s := range cases {
		holds(t, row(t, s), row(t, s), 0)
	}
}

// TestNothing is of P23.1: rows in which nothing can be done.
func TestNothing(t *testing.T) {
	none(t, "", "end", "i32.const 1", "i32.const 1; i32.const 2", "i32.const 1; i64.const 2; i32.const 3", "local.get 0", "i32.add", "i32.eqz", "drop", "drop; drop", "select",
		"i32.const 1; select", "i32.const 1; i32.const 2; select", "i32.const 1; i32.add", "i64.const 1; i64.div_u", "i32.const 1; i32.load 0 0 0", "i32.const 1; i32.const 2; i32.store 0 0 0", "i32.const 1; memory.grow 0", "i32.const 1; local.set 0", "i32.const 1; local.tee 0", "i32.const 1; global.set 0", "i32.const 1; if; end", "i32.const 1; br_if 0", "i32.const 1; br 0", "i32.const 1; return", "i32.const 1; call 0", "i32.const 1; end", "i32.const 1; else", "i32.const 1; block; i32.eqz; end",
		"i32.const 1; local.get 0; i32.add", "local.get 0; i32.const 1; i32.add", "local.get 0; local.get 1; i32.add", "local.get 0; i32.eqz", "i32.const 1; end; i32.eqz", "i32.const 1; end; drop", "i32.const 1; i32.const 2; end; i32.add", "i32.const 1; block; i32.const 2; i32.add; end")
}

// TestNop is of P23.1: the step 1.
func TestNop(t *testing.T) {
	steps(t, 1, map[string]string{
		"nop":                                 "",
		"nop; nop":                            "nop",
		"end; nop; end":                       "end; end",
		"block; nop; end":                     "block; end",
		"i32.const 1; nop; i32.eqz":           "i32.const 1; i32.eqz",
		"i32.const 1; i32.const 2; nop; drop": "i32.const 1; i32.const 2; drop",
		"br_if 0; nop":                        "br_if 0",
		"local.set 0; nop; local.get 0":       "local.set 0; local.get 0",
		"local.get 0; nop; drop; nop":         "local.get 0; drop; nop",
	})
}

// TestOne is of P23.1: the step 2, of all instructions that take one word.
func TestOne(t *testing.T) {
	steps(t, 2, map[string]string{
		"i32.const 0; i32.eqz":                              "i32.const 1",
		"i32.const -2147483648; i32.eqz":                    "i32.const 0",
		"i64.const 0; i64.eqz":                              "i32.const 1",
		"i64.const 4294967296; i64.eqz":                     "i32.const 0",
		"i32.const 0; i32.clz":                              "i32.const 32",
		"i32.const 1; i32.clz":                              "i32.const 31",
		"i32.const -1; i32.clz":                             "i32.const 0",
		"i64.const 0; i64.clz":                              "i64.const 64",
		"i64.const 1; i64.clz":                              "i64.const 63",
		"i32.const 0; i32.ctz":                              "i32.const 32",
		"i32.const -2147483648; i32.ctz":                    "i32.const 31",
		"i64.const 0; i64.ctz":                              "i64.const 64",
		"i64.const 4294967296; i64.ctz":                     "i64.const 32",
		"i32.const -1; i32.popcnt":                          "i32.const 32",
		"i64.const -1; i64.popcnt":                          "i64.const 64",
		"i64.const 4294967295; i32.wrap_i64":                "i32.const -1",
		"i64.const -4294967295; i32.wrap_i64":               "i32.const 1",
		"i32.const -1; i64.extend_i32_s":                    "i64.const -1",
		"i32.const -1; i64.extend_i32_u":                    "i64.const 4294967295",
		"i32.const 2147483647; i64.extend_i32_s":            "i64.const 2147483647",
		"i32.const 384; i32.extend8_s":                      "i32.const -128",
		"i32.const -129; i32.extend8_s":                     "i32.const 127",
		"i32.const 32768; i32.extend16_s":                   "i32.const -32768",
		"i32.const -32769; i32.extend16_s":                  "i32.const 32767",
		"i64.const 384; i64.extend8_s":                      "i64.const -128",
		"i64.const 32768; i64.extend16_s":                   "i64.const -32768",
		"i64.const 2147483648; i64.extend32_s":              "i64.const -2147483648",
		"i64.const 9223372032559808512; i64.extend32_s":     "i64.const 0",
		"local.get 0; i32.const 0; i32.eqz; i32.eqz":        "local.get 0; i32.const 1; i32.eqz",
		"i32.const 7; i32.const 0; i32.eqz; i32.add":        "i32.const 7; i32.const 1; i32.add",
		"i32.const 5; i32.popcnt; i32.const 6; i32.popcnt":  "i32.const 2; i32.const 6; i32.popcnt",
		"i32.const 0; i32.const 0; i32.clz; nop; i32.clz":   "i32.const 0; i32.const 32; nop; i32.clz",
		"br_if 0; i64.const 1; i64.eqz; br_if 0; call 0":    "br_if 0; i32.const 0; br_if 0; call 0",
		"i32.const 1; end; i32.const 0; i32.eqz; drop; nop": "i32.const 1; end; i32.const 1; drop; nop",
	})
}

// TestTwo is of P23.1: the step 3, of all instructions that take two words.
func TestTwo(t *testing.T) {
	cases := map[string]string{
		"i32.const 2147483647; i32.const 1; i32.add":              "i32.const -2147483648",
		"i64.const 9223372036854775807; i64.const 1; i64.add":     "i64.const -9223372036854775808",
		"i64.const 4294967295; i64.const 1; i64.add":              "i64.const 4294967296",
		"i64.const 4294967296; i64.const 0; i64.eq":               "i32.const 0",
		"i64.const -1; i64.const 0; i64.lt_s":                     "i32.const 1",
		"i64.const -1; i64.const 0; i64.lt_u":                     "i32.const 0",
		"i32.const 1; i32.const 33; i32.shl":                      "i32.const 2",
		"i64.const 1; i64.const 33; i64.shl":                      "i64.const 8589934592",
		"i32.const -2147483648; i32.const -1; i32.rem_s":          "i32.const 0",
		"i32.const -2147483648; i32.const -1; i32.div_u":          "i32.const 0",
		"i64.const -9223372036854775808; i64.const -1; i64.rem_s": "i64.const 0",
		"i64.const -9223372036854775808; i64.const 1; i64.div_s":  "i64.const -9223372036854775808",
		"i64.const -2147483648; i64.const -1; i64.div_s":          "i64.const 2147483648",
		"i32.const 1; i32.const 2; i32.const 3; i32.sub":          "i32.const 1; i32.const -1",
		"i32.const 6; i32.const 2; i32.div_s; i32.const 1":        "i32.const 3; i32.const 1",
		"local.get 0; i32.const 1; i32.const 2; i32.mul; drop":    "local.get 0; i32.const 2; drop",
	}
	// What comes of -7 and 3, by names.
	for name, want := range map[string]string{
		"add": "-4", "sub": "-10", "mul": "-21", "div_s": "-2", "rem_s": "-1", "and": "1", "or": "-5", "xor": "-6", "shl": "-56", "shr_s": "-1", "rotl": "-49",
		"eq": "0", "ne": "1", "lt_s": "1", "lt_u": "0", "gt_s": "0", "gt_u": "1", "le_s": "1", "le_u": "0", "ge_s": "0", "ge_u": "1",
	} {
		gives := "i64"
		if strings.Contains("eq ne lt_s lt_u gt_s gt_u le_s le_u ge_s ge_u", name) {
			gives = "i32"
		}
		cases["i32.const -7; i32.const 3; i32."+name] = "i32.const " + want
		cases["i64.const -7; i64.const 3; i64."+name] = gives + ".const " + want
	}
	for name, want := range map[string][2]string{
		"div_u": {"1431655763", "6148914691236517203"},
		"rem_u": {"0", "0"},
		"shr_u": {"536870911", "2305843009213693951"},
		"rotr":  {"1073741823", "4611686018427387903"},
	} {
		cases["i32.const -7; i32.const 3; i32."+name] = "i32.const " + want[0]
		cases["i64.const -7; i64.const 3; i64."+name] = "i64.const " + want[1]
	}
	steps(t, 3, cases)
}

// TestTraps is of P23.1: what traps stays.
func TestTraps(t *testing.T) {
	for _, name := range []string{"div_s", "div_u", "rem_s", "rem_u"} {
		for _, a := range []string{"0", "1", "-1"} {
			none(t, "i32.const "+a+"; i32.const 0; i32."+name, "i64.const "+a+"; i64.const 0; i64."+name)
		}
	}
	none(t, "i32.const -2147483648; i32.const -1; i32.div_s", "i64.const -9223372036854775808; i64.const -1; i64.div_s", "i32.const 1; i32.const 0; i32.div_s; drop", "i32.const 5; i32.const 1; i32.const 0; i32.rem_u; i32.add")
}

// TestUnused is of P23.1: the step 4.
func TestUnused(t *testing.T) {
	steps(t, 4, map[string]string{
		"i32.const 5; drop":                                    "",
		"i64.const 5; drop":                                    "",
		"local.get 3; drop":                                    "",
		"global.get 3; drop":                                   "",
		"i32.const 1; i32.const 2; drop":                       "i32.const 1",
		"local.get 0; drop; drop":                              "drop",
		"local.get 0; global.get 1; drop; i32.eqz":             "local.get 0; i32.eqz",
		"i32.const 1; i64.const 2; drop; i32.const 3; i32.add": "i32.const 1; i32.const 3; i32.add",
	})
	none(t, "local.tee 0; drop", "local.set 0; drop", "global.set 0; drop", "call 0; drop", "i32.load 0 0 0; drop", "memory.size 0; drop", "i32.add; drop", "i32.eqz; drop", "select; drop", "end; drop", "drop; local.get 0", "br_if 0; drop", "local.get 0; global.set 0; drop")
}

// TestTee is of P23.1: the step 5.
func TestTee(t *testing.T) {
	steps(t, 5, map[string]string{
		"local.set 0; local.get 0":                   "local.tee 0",
		"local.set 49; local.get 49; i32.add":        "local.tee 49; i32.add",
		"local.set 1; local.get 1; drop":             "local.tee 1; drop",
		"local.set 1; local.get 1; local.get 1":      "local.tee 1; local.get 1",
		"local.set 2; local.set 1; local.get 1; nop": "local.set 2; local.tee 1; nop",
		"local.get 2; local.set 2; local.get 2; end": "local.get 2; local.tee 2; end",
	})
	none(t, "local.set 0; local.get 1", "local.set 1; local.get 0", "local.get 0; local.set 0", "global.set 0; global.get 0", "local.set 0; global.get 0", "global.set 0; local.get 0", "local.tee 0; local.get 0", "local.set 0; local.tee 0", "local.set 0; local.set 0", "local.set 0; end; local.get 0", "local.set 0; loop; local.get 0; end")
}

// TestDead is of P23.1: the step 6.
func TestDead(t *testing.T) {
	for _, leaves := range []string{"unreachable", "br 0", "br 3", "br_table 7", "br_table 1 2 3", "return"} {
		for _, x := range []string{"nop", "i32.const 1", "local.get 0", "drop", "br 1", "br_if 0", "br_table 4 5", "return", "unreachable", "call 0", "memory.fill 0", "i32.add", "local.set 0", "select", "memory.copy 0 1", "i64.load 1 2 3", "i64.extend32_s"} {
			holds(t, row(t, leaves+"; "+x), row(t, leaves), 6)
			holds(t, row(t, leaves+"; "+x+"; nop; end"), row(t, leaves+"; nop; end"), 6)
		}
		for _, x := range []string{"end", "else", "block", "block i32", "loop", "loop i64", "if", "if i32"} {
			none(t, leaves+"; "+x, leaves+"; "+x+"; drop")
		}
		holds(t, row(t, leaves+"; block; nop; end"), row(t, leaves+"; block; end"), 1)
		none(t, leaves)
	}
	none(t, "br_if 0; drop", "call 0; drop", "call_indirect 0 0; drop", "i32.store 0 0 0; drop", "else; drop", "end; drop", "loop; drop")
	// Whatever stands there.
	stop := instr.Instr{Code: 0}
	for _, code := range []int{math.MinInt, -1, 6, 67, 253, 64512, 64535, math.MaxInt} {
		holds(t, []instr.Instr{stop, {Code: code}}, []instr.Instr{stop}, 6)
		holds(t, []instr.Instr{{Code: code}, {Code: code}, {Code: 65}, {Code: code}}, []instr.Instr{{Code: code}, {Code: code}, {Code: 65}, {Code: code}}, 0)
	}
}

// TestPlace is of P23.1: of steps that can be done at many places the one at the first place is, whatever their numbers are.
func TestPlace(t *testing.T) {
	for _, c := range []struct {
		l, want string
		n       int
	}{
		{"return; nop", "return", 6},
		{"unreachable; i32.const 2; i32.const 3; i32.add", "unreachable; i32.const 3; i32.add", 6},
		{"nop; return; nop", "return; nop", 1},
		{"local.set 0; local.get 0; drop", "local.tee 0; drop", 5},
		{"i32.const 1; drop; nop", "nop", 4},
		{"i32.const 1; i32.const 2; i32.add; i32.eqz", "i32.const 3; i32.eqz", 3},
		{"i32.const 1; i32.eqz; nop; i32.const 2; i32.add", "i32.const 0; nop; i32.const 2; i32.add", 2},
		{"local.set 0; local.get 0; i32.const 1; i32.eqz", "local.tee 0; i32.const 1; i32.eqz", 5},
		{"i32.const 0; i32.const 1; i32.eqz; drop", "i32.const 0; i32.const 0; drop", 2},
		{"i32.const 4; i32.const 5; i32.const 6; i32.mul; i32.mul", "i32.const 4; i32.const 30; i32.mul", 3},
		{"i32.const 1; i32.const 0; i32.div_u; br 0; drop", "i32.const 1; i32.const 0; i32.div_u; br 0", 6},
	} {
		holds(t, row(t, c.l), row(t, c.want), c.n)
	}
}

// TestWrong is of P23.1: lists that are no body's: instructions that aren't right, or whose types don't fit, are what their codes tell.
func TestWrong(t *testing.T) {
	for _, c := range []struct {
		l, want []instr.Instr
		n       int
	}{
		{[]instr.Instr{{Code: 1, A: 1, B: 2, Align: 3, L: []uint64{4}}}, nil, 1},
		{[]instr.Instr{{Code: 65, A: 1 << 32, B: 7}, {Code: 69, A: 5}}, row(t, "i32.const 1"), 2},
		{[]instr.Instr{{Code: 65, A: 1<<32 + 5}, {Code: 173}}, row(t, "i64.const 5"), 2},
		{[]instr.Instr{{Code: 65, A: math.MaxUint64}, {Code: 65, A: 1 << 63, L: []uint64{1}}, {Code: 106, L: []uint64{1}}}, row(t, "i32.const -1"), 3},
		{[]instr.Instr{{Code: 65, A: 1 << 40, Align: -1}, {Code: 26, B: 1}}, nil, 4},
		{[]instr.Instr{{Code: 33, A: math.MaxUint64, B: 1}, {Code: 32, A: math.MaxUint64, L: []uint64{1}}}, []instr.Instr{{Code: 34, A: math.MaxUint64}}, 5},
		{[]instr.Instr{{Code: 15, A: 9, L: []uint64{1}}, {Code: 2, A: 9}, {Code: 12}, {Code: 1}}, []instr.Instr{{Code: 15, A: 9, L: []uint64{1}}, {Code: 2, A: 9}, {Code: 12}}, 6},
	} {
		holds(t, c.l, c.want, c.n)
	}
	steps(t, 2, map[string]string{"i64.const 4294967296; i32.eqz": "i32.const 1", "i32.const 5; i32.wrap_i64": "i32.const 5", "i64.const 4294967295; i64.extend_i32_s": "i64.const -1"})
	steps(t, 3, map[string]string{"i64.const 4294967297; i32.const 2; i32.add": "i32.const 3", "i32.const 1; i64.const 2; i64.lt_s": "i32.const 1"})
}

// TestLabels is of P23.1: lists of labels stay as they are.
func TestLabels(t *testing.T) {
	l := row(t, "nop; br_table 1 2 3; br_table 4; br_table 5 6 7 8")
	holds(t, l, row(t, "br_table 1 2 3; br_table 4; br_table 5 6 7 8"), 1)
	if got := plain.Body(l); told(got) != "br_table 1 2 3" || told(l) != "nop; br_table 1 2 3; br_table 4; br_table 5 6 7 8" {
		t.Errorf("Body: %s; of %s", told(got), told(l))
	}
}

// TestBody is of P23.1: rows, as plain as can be.
func TestBody(t *testing.T) {
	for s, want := range map[string]string{
		"":                                  "",
		"end":                               "end",
		"nop; nop; nop":                     "",
		"i32.const 2; i32.const 3; i32.add": "i32.const 5",
		"i32.const 1; i32.const 2; i32.const 3; i32.add; i32.mul; drop":                                                "",
		"i32.const 1; nop; nop; i32.const 2; nop; i32.add; nop; end":                                                   "i32.const 3; end",
		"local.get 0; local.get 1; local.get 2; local.get 3; drop; drop; drop; drop":                                   "",
		"local.set 0; local.get 0; drop":                                                                               "local.tee 0; drop",
		"local.set 0; nop; local.get 0; nop; drop":                                                                     "local.tee 0; drop",
		"local.set 0; i32.const 1; drop; local.get 0":                                                                  "local.tee 0",
		"i32.const 1; local.get 0; drop; i64.const 2; drop; i32.const 3; i32.sub":                                      "i32.const -2",
		"i32.const 1; i32.const 0; i32.div_s; drop; i32.const 1; drop":                                                 "i32.const 1; i32.const 0; i32.div_s; drop",
		"i32.const 7; i32.const 6; i32.const 0; i32.eqz; i32.div_s; i32.rem_s":                                         "i32.const 1",
		"return; i32.const 1; drop; end; nop; end":                                                                     "return; end; end",
		"block; br 0; i32.const 1; br_if 0; unreachable; end; end":                                                     "block; br 0; end; end",
		"unreachable; block; nop; end; nop; i32.const 1; drop; end":                                                    "unreachable; block; end; end",
		"i32.const 1; if i32; i32.const 2; i32.eqz; else; unreachable; nop; end; i32.const 0; i32.add":                 "i32.const 1; if i32; i32.const 0; else; unreachable; end; i32.const 0; i32.add",
		"i32.const -1; i64.extend_i32_u; i64.const 1; i64.add; i64.const 32; i64.shr_u; i32.wrap_i64":                  "i32.const 1",
		"loop; i32.const 3; i32.const 4; i32.lt_u; br_if 0; nop; end; end":                                             "loop; i32.const 1; br_if 0; end; end",
		"i32.const 1; i32.const 2; i32.const 3; i32.const 4; i32.const 5; i32.add; i32.add; i32.add; i32.add; i32.eqz": "i32.const 0",
		"local.get 0; drop; br_table 1 2 0; br 1; br_table 2 2; loop; drop; end":                                       "br_table 1 2 0; loop; drop; end",
	} {
		l := row(t, s)
		if got := plain.Body(l); told(got) != want || told(l) != s {
			t.Errorf("Body of %s: %s, not %s; it is %s now", s, told(got), want, told(l))
		}
	}
}

// TestNew is of the rules: what is handed in, its spare room, too, and what was answered are let be.
func TestNew(t *testing.T) {
	for _, s := range []string{"end; end; end", "nop; end; end", "end; i32.const 1; i32.eqz", "i32.const 1; i32.const 2; i32.add; end", "end; return; nop; nop"} {
		l := row(t, s)
		spare := append(slices.Clone(l), row(t, "drop; drop; drop; drop")...)
		one, _ := plain.Step(spare[:len(l)])
		all := plain.Body(spare[:len(l)])
		if told(spare) != s+"; drop; drop; drop; drop" {
			t.Errorf("of %s: %s", s, told(spare))
		}
		first, second := told(one), told(all)
		clear(spare)
		clear(append(one[:len(one):len(one)], one...))
		if told(one) != first || told(all) != second {
			t.Errorf("of %s: %s, %s", s, told(one), told(all))
		}
		clear(all[:cap(all)])
		clear(spare[:cap(spare)])
		if told(one) != first {
			t.Errorf("of %s: Step and Body share: %s", s, told(one))
		}
	}
	l := row(t, "local.get 0; end")
	one, _ := plain.Step(l)
	all := plain.Body(l)
	clear(one)
	clear(all)
	if told(l) != "local.get 0; end" {
		t.Errorf("the list: %s", told(l))
	}
}

// TestLong is of P23.1: lists of very many instructions are made plainer while one waits.
func TestLong(t *testing.T) {
	const n = 200_000
	c, add := row(t, "i32.const 1"), row(t, "i32.add")
	for what, x := range map[string]struct {
		l    []instr.Instr
		want string
	}{
		"nop":    {slices.Repeat(row(t, "nop"), n), ""},
		"add":    {append(slices.Repeat(c, n), slices.Repeat(add, n-1)...), "i32.const 200000"},
		"drop":   {append(slices.Repeat(c, n), slices.Repeat(row(t, "drop"), n-1)...), "i32.const 1"},
		"dead":   {append(row(t, "return"), slices.Repeat(add, n)...), "return"},
		"nested": {slices.Concat(c, slices.Repeat(row(t, "i32.const 1; i32.add"), n-1)), "i32.const 200000"},
	} {
		if got := plain.Body(x.l); told(got) != x.want {
			t.Errorf("%s: %d instructions", what, len(got))
		}
	}
	if got := plain.Body(slices.Repeat(c, n)); !same(got, slices.Repeat(c, n)) {
		t.Errorf("of so many Consts: %d", len(got))
	}
}
