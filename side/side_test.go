package side_test

import (
	"math"
	"reflect"
	"slices"
	"strconv"
	"strings"
	"testing"

	"grommet/api"
	"grommet/code"
	"grommet/instr"
	"grommet/module"
	"grommet/side"
	"grommet/types"
)

// sig is the signature of a text.
func sig(s string) types.Sig {
	x, e := types.ParseSig(s)
	if e != api.OK {
		panic(s)
	}
	return x
}

// row is the instructions of texts, with ; between.
func row(s string) []instr.Instr {
	var l []instr.Instr
	for part := range strings.SplitSeq(s, ";") {
		x, e := instr.Parse(strings.TrimSpace(part))
		if e != api.OK {
			panic(s + ": " + part)
		}
		l = append(l, x)
	}
	return l
}

// looked is the number of the own function that is looked at; it is 3 with the two imports.
const looked = 1

// with is a module whose looked function has this signature and this body; the others give other numbers of results.
func with(s string, l []instr.Instr) *module.Module {
	return &module.Module{
		Sigs:    []types.Sig{sig("()->(i64,i64,i64)"), sig("(i32)->(i64,i64,i64,i64)"), sig(s)},
		Imports: []module.Import{{Module: "env", Name: "a", Sig: 0}, {Module: "env", Name: "b", Sig: 1}},
		Funcs: []module.Func{
			{Sig: 0, Body: code.Body{L: row("block; unreachable; br 0; end; unreachable; end")}},
			{Sig: 2, Body: code.Body{L: l}},
			{Sig: 1, Body: code.Body{L: row("drop; end")}},
		},
		Table: -1,
		Start: -1,
	}
}

// made is the side table of a function of this signature and this body.
func made(t *testing.T, s, body string) *side.Side {
	t.Helper()
	x, e := side.New(with(s, row(body)), looked)
	if x == nil || e != api.OK {
		t.Fatalf("New of %s, %.200q: %d", s, body, e)
	}
	return x
}

// told is all that a side table tells of n instructions, and of places and labels beyond: of each jump its place, To, Keep and Height, and of each skip where from and where to.
func told(t *testing.T, s *side.Side, n int) (string, string) {
	t.Helper()
	var jumps, skips []string
	places := []int{math.MinInt, -2, -1}
	for at := range n + 2 {
		places = append(places, at)
	}
	for _, at := range append(places, math.MaxInt) {
		count := s.Count(at)
		if count < 0 {
			t.Errorf("Count(%d): %d", at, count)
		}
		for _, k := range append([]int{math.MinInt, -1, count, count + 1, math.MaxInt}, upTo(count)...) {
			j, ok := s.Label(at, k)
			if ok != (0 <= k && k < count) || !ok && j != (side.Jump{}) {
				t.Errorf("Label(%d, %d): %v, %v, of %d", at, k, j, ok, count)
			}
			if ok {
				jumps = append(jumps, words(at)+": "+words(j.To, j.Keep, j.Height))
			}
		}
		to, ok := s.Skip(at)
		if !ok && to != 0 {
			t.Errorf("Skip(%d): %d, false", at, to)
		}
		if ok {
			skips = append(skips, words(at, to))
		}
	}
	if s.Len() != len(jumps) {
		t.Errorf("Len: %d, not %d", s.Len(), len(jumps))
	}
	return strings.Join(jumps, ", "), strings.Join(skips, ", ")
}

// upTo is the numbers from 0 on that are below n.
func upTo(n int) []int {
	var l []int
	for i := range n {
		l = append(l, i)
	}
	return l
}

// words are numbers, with blanks between.
func words(l ...int) string {
	var s []string
	for _, n := range l {
		s = append(s, strconv.Itoa(n))
	}
	return strings.Join(s, " ")
}

// leads holds all jumps, and all skips, of a body.
func leads(t *testing.T, s, body, jumps, skips string) {
	t.Helper()
	x := made(t, s, body)
	if j, k := told(t, x, len(row(body))); j != jumps || k != skips {
		t.Errorf("of %s, %q: %q, %q, not %q, %q", s, body, j, k, jumps, skips)
	}
}

// TestExample is of the chapter's example.
func TestExample(t *testing.T) {
	leads(t, "()->()", "block; br 0; end; end", "1: 3 0 0", "")
}

// TestNone is of P18.1: bodies without jumps and skips.
func TestNone(t *testing.T) {
	leads(t, "()->()", "end", "", "")
	leads(t, "()->(i32)", "block; loop i32; i32.const 1; return; end; drop; end; unreachable; end", "", "")
	leads(t, "(i32)->(i32)", "local.get 0; i32.const 1; i32.const 0; select; drop; local.get 0; end", "", "")
}

// TestBlock is of P18.1: a block's label leads behind its end, with its results, as high as it was ahead of it.
func TestBlock(t *testing.T) {
	leads(t, "()->(i64)", "block i64; i64.const 1; br 0; end; end", "2: 4 1 0", "")
	leads(t, "()->(i64)", "nop; i64.const 1; block; br 0; end; end", "3: 5 0 1", "")
	leads(t, "()->(i64,i32)", "i64.const 1; block i32; i32.const 1; br 0; end; end", "3: 5 1 1", "")
	leads(t, "()->(i64,i32)", "i64.const 1; block i32; i32.const 1; i32.const 2; br_if 0; end; end", "4: 6 1 1", "")
	leads(t, "()->()", "block; nop; br 0; nop; br 0; nop; end; nop; end", "2: 7 0 0, 4: 7 0 0", "")
	// One behind the other, and one within the other.
	leads(t, "()->()", "block; br 0; end; block; br 0; end; block; br 1; end; end", "1: 3 0 0, 4: 6 0 0, 7: 10 0 0", "")
	leads(t, "()->()", "block; block; br 0; end; br 0; end; end", "2: 4 0 0, 4: 6 0 0", "")
	leads(t, "()->()", "block; block; br 1; end; br 1; end; end", "2: 6 0 0, 4: 7 0 0", "")
	leads(t, "()->(i32,i32)", "i32.const 1; block i32; i32.const 1; block; i32.const 7; br 1; end; br 0; end; end", "5: 9 1 1, 7: 9 1 1", "")
	leads(t, "()->(i32,i32)", "i32.const 1; block i32; i32.const 1; block; br 0; end; br 0; end; end", "4: 6 0 2, 6: 8 1 1", "")
}

// TestLoop is of P18.1: a loop's label leads behind its beginning, with nothing, whatever its results are.
func TestLoop(t *testing.T) {
	leads(t, "()->()", "loop; br 0; end; end", "1: 1 0 0", "")
	leads(t, "()->(i64)", "loop i64; br 0; end; end", "1: 1 0 0", "")
	leads(t, "()->(i64,i32)", "i64.const 1; nop; loop i32; i32.const 1; i32.const 2; br_if 0; end; end", "5: 3 0 1", "")
	leads(t, "()->()", "loop; block; br 1; end; br 0; end; end", "2: 1 0 0, 4: 1 0 0", "")
	leads(t, "()->()", "block; loop; br 1; end; end; end", "2: 5 0 0", "")
	leads(t, "(i32)->(i32)", "loop i32; local.get 0; local.get 0; br_if 1; drop; br 0; end; end", "3: 8 1 0, 5: 1 0 0", "")
}

// TestOwn is of P18.1: the function's own label leads behind all instructions, with its results, and nothing below them.
func TestOwn(t *testing.T) {
	leads(t, "()->()", "br 0; end", "0: 2 0 0", "")
	leads(t, "()->(i32)", "i32.const 1; br 0; end", "1: 3 1 0", "")
	leads(t, "()->(i64,i32)", "block; i64.const 1; i32.const 1; br 1; end; unreachable; end", "3: 7 2 0", "")
	leads(t, "()->(i64,i32)", "i32.const 1; i64.const 1; i32.const 1; i32.const 0; br_if 0; unreachable; end", "4: 7 2 0", "")
	many := strings.Repeat("i32,", 19) + "i32"
	leads(t, "()->("+many+")", strings.Repeat("i32.const 1; ", 20)+"br 0; end", "20: 22 20 0", "")
}

// TestIf is of P18.1: an if's label is as a block's, but for its I32; where ifs and elses go on.
func TestIf(t *testing.T) {
	leads(t, "(i32)->()", "local.get 0; if; end; end", "", "1 2")
	leads(t, "(i32)->()", "local.get 0; if; nop; nop; end; end", "", "1 4")
	leads(t, "(i32)->()", "local.get 0; if; else; end; end", "", "1 3, 2 3")
	leads(t, "(i32)->(i32)", "local.get 0; if i32; i32.const 1; else; i32.const 2; end; end", "", "1 4, 3 5")
	leads(t, "(i32)->()", "local.get 0; if; br 0; end; end", "2: 4 0 0", "1 3")
	leads(t, "(i32)->()", "i64.const 1; i32.const 1; if i32; i32.const 2; br 0; else; i32.const 3; br 0; end; drop; drop; end", "4: 9 1 1, 7: 9 1 1", "2 6, 5 8")
	leads(t, "(i32)->()", "local.get 0; if; br 1; else; br 1; end; end", "2: 7 0 0, 4: 7 0 0", "1 4, 3 5")
	// Within one another, and one behind the other.
	leads(t, "(i32)->()", "local.get 0; if; local.get 0; if; else; br 1; end; else; local.get 0; if; br 0; end; end; end",
		"5: 13 0 0, 10: 12 0 0", "1 8, 3 5, 4 6, 7 12, 9 11")
	leads(t, "(i32)->()", "local.get 0; if; end; local.get 0; if; nop; else; end; block; local.get 0; if; end; end; end", "", "1 2, 4 7, 6 7, 10 11")
	// Blocks that stand in an if have no skips, and their ends aren't its end.
	leads(t, "(i32)->()", "local.get 0; if; block; end; else; loop; end; end; end", "", "1 5, 4 7")
}

// TestDead is of P18.1: branches behind unreachable have jumps as well; an if there may have taken its I32 from nothing.
func TestDead(t *testing.T) {
	leads(t, "()->(i64)", "unreachable; br 0; br_if 0; end", "1: 4 1 0, 2: 4 1 0", "")
	leads(t, "()->()", "unreachable; if; br 0; end; end", "2: 4 0 0", "1 3")
	leads(t, "()->()", "i32.const 1; block; unreachable; if; br 0; end; end; drop; end", "4: 6 0 0", "3 5")
	leads(t, "()->()", "i32.const 1; block; unreachable; block; br 0; end; end; drop; end", "4: 6 0 1", "")
	leads(t, "()->()", "i32.const 1; i32.const 1; block; unreachable; if i64; i64.const 1; br 0; else; br 1; end; drop; end; drop; drop; end", "6: 10 1 1, 8: 12 0 2", "4 8, 7 9")
	leads(t, "()->()", "i64.const 1; unreachable; i64.const 1; i32.const 1; if; br 0; end; drop; end", "5: 7 0 1", "4 6")
	leads(t, "()->()", "unreachable; loop; br 0; end; i64.const 1; loop; br 0; end; drop; end", "2: 2 0 0, 6: 6 0 1", "")
}

// TestTable is of P18.1: a br_table's labels in their order, and the one beside the list last.
func TestTable(t *testing.T) {
	leads(t, "()->()", "i32.const 0; br_table 0; end", "1: 3 0 0", "")
	leads(t, "(i32)->()", "block; block; block; local.get 0; br_table 0 1 2 3 1; end; end; end; end", "4: 6 0 0, 4: 7 0 0, 4: 8 0 0, 4: 9 0 0, 4: 7 0 0", "")
	leads(t, "(i32)->(i64)", "i32.const 1; block i64; i64.const 1; local.get 0; br_table 1 0 1 1; end; br 0; end",
		"4: 8 1 0, 4: 6 1 1, 4: 8 1 0, 4: 8 1 0, 6: 8 1 0", "")
	leads(t, "(i32)->()", "block; loop; local.get 0; br_table 0 0 1; end; end; end", "3: 2 0 0, 3: 2 0 0, 3: 6 0 0", "")
	many := made(t, "()->()", "block; i32.const 0; br_table"+strings.Repeat(" 1", 99)+" 0 1; end; end")
	for k := range 101 {
		want := side.Jump{To: 5}
		if k == 99 {
			want.To = 4
		}
		if j, ok := many.Label(2, k); j != want || !ok {
			t.Errorf("Label(2, %d): %v, %v", k, j, ok)
		}
	}
	if many.Count(2) != 101 || many.Len() != 101 {
		t.Errorf("%d labels, %d jumps", many.Count(2), many.Len())
	}
}

// TestDeep is of P18.1: labels of as many blocks as may be, from the innermost on.
func TestDeep(t *testing.T) {
	open := strings.Repeat("block; ", 64)
	var branches strings.Builder
	for n := range 65 {
		branches.WriteString("br " + strconv.Itoa(n) + "; ")
	}
	s := made(t, "()->()", open+branches.String()+strings.Repeat("end; ", 64)+"end")
	for n := range 65 {
		if j, ok := s.Label(64+n, 0); j != (side.Jump{To: 130 + n}) || !ok {
			t.Errorf("br %d: %v, %v", n, j, ok)
		}
	}
}

// TestHigh is of P18.1: the highest stacks, and the farthest places, that there may be.
func TestHigh(t *testing.T) {
	const calls = 1500
	m := with("()->()", row(strings.Repeat("call 0; ", calls)+"block; block i64; loop; i32.const 0; br_if 2; br 0; end; unreachable; end; unreachable; end; unreachable; end"))
	s, e := side.New(m, looked)
	if e != api.OK {
		t.Fatal(e)
	}
	for at, want := range map[int]side.Jump{calls + 4: {calls + 11, 0, 3 * calls}, calls + 5: {calls + 3, 0, 3 * calls}} {
		if j, ok := s.Label(at, 0); j != want || !ok {
			t.Errorf("Label(%d): %v, %v, not %v", at, j, ok, want)
		}
	}
}

// TestWrong is of P18.1: the errors of Func, and no side table.
func TestWrong(t *testing.T) {
	end := instr.Instr{Code: 11}
	empty := func(*module.Module) {}
	for _, c := range []struct {
		name string
		do   func(*module.Module)
		f    int
		want api.Errno
	}{
		{"not fit", func(m *module.Module) { m.Start = 2 }, looked, api.ErrState},
		{"not fit, and no function", func(m *module.Module) { m.Start = 2 }, 9, api.ErrState},
		{"below", empty, -1, api.ErrRange},
		{"behind", empty, 3, api.ErrRange},
		{"with imports", empty, 4, api.ErrRange},
		{"most", empty, math.MaxInt, api.ErrRange},
		{"least", empty, math.MinInt, api.ErrRange},
		{"no body", func(m *module.Module) { m.Funcs[looked].Body.L = nil }, looked, api.ErrForm},
		{"not closed", func(m *module.Module) { m.Funcs[looked].Body.L = row("br 0; block; end") }, looked, api.ErrForm},
		{"else", func(m *module.Module) { m.Funcs[looked].Body.L = row("block; else; end; end") }, looked, api.ErrForm},
		{"no instruction", func(m *module.Module) { m.Funcs[looked].Body.L = []instr.Instr{{Code: 6}, end} }, looked, api.ErrArg},
		{"no local", func(m *module.Module) { m.Funcs[looked].Body.Locals = []api.Type{1} }, looked, api.ErrArg},
		{"too deep", func(m *module.Module) { m.Funcs[looked].Body.L = row(strings.Repeat("block; ", 65) + "end") }, looked, api.ErrLong},
		{"too long", func(m *module.Module) { m.Funcs[looked].Body.L = row(strings.Repeat("nop; ", 4095) + "end") }, looked, api.ErrLong},
		{"no label", func(m *module.Module) { m.Funcs[looked].Body.L = row("br 1; end") }, looked, api.ErrRange},
		{"no type", func(m *module.Module) { m.Funcs[looked].Body.L = row("br_if 0; end") }, looked, api.ErrType},
		{"of a label", func(m *module.Module) { m.Funcs[looked].Body.L = row("block i32; br 0; end; drop; end") }, looked, api.ErrType},
		{"of another function", empty, 2, api.ErrType},
	} {
		m := with("()->()", row("block; br 0; end; end"))
		c.do(m)
		if s, e := side.New(m, c.f); s != nil || e != c.want {
			t.Errorf("New of %s: %v, %d, not %d", c.name, s, e, c.want)
		}
	}
	for _, m := range []*module.Module{nil, {}} {
		if s, e := side.New(m, 0); s != nil || e != api.ErrState {
			t.Errorf("New of none: %v, %d", s, e)
		}
	}
	if s, e := side.New(module.Empty(), 0); s != nil || e != api.ErrRange {
		t.Errorf("New of an empty one: %v, %d", s, e)
	}
}

// TestEach is of P18.1: each function has a side table of its own, whatever the others are.
func TestEach(t *testing.T) {
	m := with("()->()", row("nop; br 0; end"))
	for f, want := range []string{"2: 4 0 0", "1: 3 0 0"} {
		s, e := side.New(m, f)
		if e != api.OK {
			t.Fatalf("New of %d: %d", f, e)
		}
		if j, _ := told(t, s, 6); j != want {
			t.Errorf("of %d: %q", f, j)
		}
	}
	// Without imports its number is the same.
	m.Imports = nil
	m.Sigs[2].Results = []api.Type{api.I64}
	m.Funcs[looked].Body.L = row("i64.const 1; br 0; end")
	s, e := side.New(m, looked)
	if j, _ := s.Label(1, 0); e != api.OK || j != (side.Jump{To: 3, Keep: 1}) {
		t.Errorf("without imports: %v, %d", j, e)
	}
}

// TestNil is of P18.1: a nil table has nothing.
func TestNil(t *testing.T) {
	var s *side.Side
	if j, k := told(t, s, 5); j != "" || k != "" || s.Len() != 0 {
		t.Errorf("of nil: %q, %q, %d", j, k, s.Len())
	}
}

// TestStays is of rule 4: what is handed in stays as it was, spare room of lists as well, and isn't kept.
func TestStays(t *testing.T) {
	fresh := func() *module.Module {
		m := with("(i32)->(i32)", row("local.get 0; if; block; local.get 0; br_table 0 1 0; end; end; i32.const 1; end"))
		list := &m.Funcs[looked].Body.L[4].L
		*list = append(*list, 77, 77)[:2]
		return m
	}
	const jumps, skips = "4: 6 0 0, 4: 7 0 0, 4: 6 0 0", "1 6"
	m := fresh()
	s, _ := side.New(m, looked)
	if j, k := told(t, s, 9); j != jumps || k != skips {
		t.Fatalf("%q, %q", j, k)
	}
	spare := m.Funcs[looked].Body.L[4].L[:4]
	if !reflect.DeepEqual(m, fresh()) || !slices.Equal(spare, []uint64{0, 1, 77, 77}) {
		t.Errorf("the module was changed: %+v", m)
	}
	clear(spare)
	clear(m.Funcs[looked].Body.L)
	m.Sigs[2] = sig("()->()")
	*m = module.Module{}
	if j, k := told(t, s, 9); j != jumps || k != skips || s.Count(4) != 3 {
		t.Errorf("it keeps its module: %q, %q", j, k)
	}
}
