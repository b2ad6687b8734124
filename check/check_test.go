package check_test

import (
	"math"
	"reflect"
	"slices"
	"strings"
	"testing"

	"grommet/api"
	"grommet/check"
	"grommet/code"
	"grommet/instr"
	"grommet/module"
	"grommet/types"
)

// sig is the signature of a text.
func sig(s string) types.Sig {
	x, e := types.ParseSig(s)
	if e != api.OK {
		panic(s)
	}
	return x
}

// list is the types of names, blanks between.
func list(s string) []api.Type {
	var l []api.Type
	for name := range strings.FieldsSeq(s) {
		l = append(l, map[string]api.Type{"i32": api.I32, "i64": api.I64, "?": 99}[name])
	}
	return l
}

// row is the instructions of texts, with ; between.
func row(s string) []instr.Instr {
	var l []instr.Instr
	for part := range strings.SplitSeq(s, ";") {
		x, e := instr.Parse(strings.TrimSpace(part))
		if e != api.OK {
			panic(s + ": " + part)
		}
		l = append(l, x)
	}
	return l
}

// some is a module that is fit, with some of all, and an own function whose body is wrong; each call makes a new one.
//
// The signature 7 is that of the function that is looked at, which is the own function 1, and 3 with the two imports.
func some() *module.Module {
	return &module.Module{
		Sigs: []types.Sig{
			sig("()->()"), sig("(i32,i64)->(i64,i32)"), sig("()->(i32)"), sig("(i64)->()"),
			sig("(i32,i32,i32,i32)->(i64,i64)"), sig("(i64,i32)->(i64)"), sig("()->(i64,i32,i64)"), sig("()->()"),
		},
		Imports: []module.Import{{Module: "env", Name: "swap", Sig: 1}, {Module: "env", Name: "take", Sig: 3}},
		Funcs:   []module.Func{{Sig: 2, Body: code.Body{L: row("i64.const 1; end")}}, {Sig: 7}, {Sig: 6, Body: code.Body{L: row("local.get 7; end")}}},
		Table:   3,
		Mems:    []types.Limits{{Max: -1}, {Max: -1, Wide: true}, {Min: 1, Max: 2}, {Min: 1, Max: 1, Wide: true}},
		Globals: []module.Global{{Type: api.I32}, {Type: api.I64, Mutable: true}, {Type: api.I32, Mutable: true}, {Type: api.I64}, {Type: api.I64, Mutable: true}},
		Start:   -1,
	}
}

// looked is the number of the own function that is looked at.
const looked = 1

// with is some module, and in it a function of this signature, these locals and this body.
func with(s, locals, body string) *module.Module {
	m := some()
	m.Sigs[7] = sig(s)
	m.Funcs[looked].Body = code.Body{Locals: list(locals), L: row(body)}
	return m
}

// fine holds that a function is well typed, and how high the stack is.
func fine(t *testing.T, s, locals, body string, heights ...int) {
	t.Helper()
	m := with(s, locals, body)
	at, e := check.Func(m, looked)
	if at != 0 || e != api.OK {
		t.Errorf("Func of %s, %q: %d, %d", s, body, at, e)
	}
	l, e := check.Heights(m, looked)
	if e != api.OK || !slices.Equal(l, heights) {
		t.Errorf("Heights of %s, %q: %v, %d, not %v", s, body, l, e, heights)
	}
	if n := check.Peak(m, looked); n != slices.Max(heights) {
		t.Errorf("Peak of %s, %q: %d", s, body, n)
	}
}

// holds holds that a function is well typed.
func holds(t *testing.T, m *module.Module, what string) {
	t.Helper()
	at, e := check.Func(m, looked)
	if l, e2 := check.Heights(m, looked); at != 0 || e != api.OK || e2 != api.OK || len(l) != len(m.Funcs[looked].Body.L) {
		t.Errorf("Func of %q: %d, %d; Heights: %v, %d", what, at, e, l, e2)
	}
}

// wrong holds where a function isn't well typed, and the error.
func wrong(t *testing.T, s, locals, body string, place int, err api.Errno) {
	t.Helper()
	refused(t, body, with(s, locals, body), looked, place, err)
}

// refused holds what is told of a function that isn't well typed, or of none.
func refused(t *testing.T, what string, m *module.Module, f, place int, err api.Errno) {
	t.Helper()
	if at, e := check.Func(m, f); at != place || e != err {
		t.Errorf("Func of %d, %.200q: %d, %d, not %d, %d", f, what, at, e, place, err)
	}
	if l, e := check.Heights(m, f); l != nil || e != err {
		t.Errorf("Heights of %d, %.200q: %v, %d, not %d", f, what, l, e, err)
	}
	if n := check.Peak(m, f); n != 0 {
		t.Errorf("Peak of %d, %.200q: %d", f, what, n)
	}
}

// TestExamples is of the chapter's examples.
func TestExamples(t *testing.T) {
	fine(t, "()->(i32)", "", "i32.const 1; end", 0, 1)
	wrong(t, "()->()", "", "i32.const 1; end", 1, api.ErrType)
}

// TestNone is of P16.1: a module that is none, or isn't fit, ahead of a function that there isn't, ahead of a body that has no bytes.
func TestNone(t *testing.T) {
	for _, f := range []int{0, 1, 2, -1, 3, 99, math.MaxInt, math.MinInt} {
		refused(t, "nil", nil, f, 0, api.ErrState)
		refused(t, "no module", &module.Module{}, f, 0, api.ErrState)
		for name, do := range map[string]func(*module.Module){
			"sigs":    func(m *module.Module) { m.Sigs[0].Params = []api.Type{1} },
			"imports": func(m *module.Module) { m.Imports[0].Name = "" },
			"funcs":   func(m *module.Module) { m.Funcs[0].Sig = 8 },
			"own":     func(m *module.Module) { m.Funcs[looked].Sig = -1 },
			"table":   func(m *module.Module) { m.Table = -2 },
			"mems":    func(m *module.Module) { m.Mems[3].Max = 0 },
			"globals": func(m *module.Module) { m.Globals[0].Value = 1 << 32 },
			"exports": func(m *module.Module) { m.Exports = []module.Export{{Name: "f", Index: 5}} },
			"start":   func(m *module.Module) { m.Start = 2 },
			"elems":   func(m *module.Module) { m.Elems = []module.Elem{{Funcs: []int{5}}} },
			"data":    func(m *module.Module) { m.Datas = []module.Data{{Mem: 4}} },
		} {
			m := with("()->()", "", "end")
			do(m)
			refused(t, name, m, f, 0, api.ErrState)
			m.Funcs[looked].Body = code.Body{}
			refused(t, name, m, f, 0, api.ErrState)
		}
	}
	for _, f := range []int{-1, 3, 4, 99, math.MaxInt, math.MinInt, math.MaxInt - 1} {
		refused(t, "none", with("()->()", "", "end"), f, 0, api.ErrRange)
	}
	refused(t, "empty", module.Empty(), 0, 0, api.ErrRange)
	m := some()
	m.Funcs = nil
	refused(t, "imports alone", m, 0, 0, api.ErrRange)
}

// TestBodies is of P16.1: the error of a body's bytes, and 0, ahead of what isn't well typed.
func TestBodies(t *testing.T) {
	nops := func(n int) []instr.Instr { return append(make([]instr.Instr, n), instr.Instr{Code: 11}) }
	deep := func(n int) []instr.Instr {
		l := slices.Repeat(row("block"), n)
		return append(l, nops(0)[0])
	}
	for err, bodies := range map[api.Errno][]code.Body{
		api.ErrArg: {
			{L: []instr.Instr{{Code: 26}, {Code: 6}, {Code: 11}}},
			{L: []instr.Instr{{Code: 26}, {Code: 11, A: 1}}},
			{L: []instr.Instr{{Code: 32, A: 1 << 32}, {Code: 11}}},
			{L: []instr.Instr{{Code: 2, A: 125}, {Code: 11}, {Code: 11}}},
			{L: []instr.Instr{{Code: 65, A: 1 << 32}, {Code: 11}}},
			{L: []instr.Instr{{Code: 40, Align: 32}, {Code: 11}}},
			{L: []instr.Instr{{Code: 28}, {Code: 11}}},
			{Locals: list("i32 ?"), L: row("drop; end")},
			{Locals: slices.Repeat(list("i32"), 51), L: row("drop; end")},
		},
		api.ErrForm: {
			{},
			{Locals: list("i32")},
			{L: row("drop")},
			{L: row("drop; block; end")},
			{L: row("drop; else; end")},
			{L: row("drop; end; end")},
			{L: row("end; drop")},
		},
		api.ErrLong: {
			{L: slices.Concat(row("drop"), nops(4094))},
			{L: nops(4095)},
			{L: deep(65)},
		},
	} {
		for _, b := range bodies {
			m := some()
			m.Funcs[looked].Body = b
			refused(t, "body", m, looked, 0, err)
		}
	}
	m := some()
	m.Funcs[looked].Body = code.Body{L: nops(4094)}
	m.Funcs[looked].Body.L[0] = row("unreachable")[0]
	if at, e := check.Func(m, looked); at != 0 || e != api.OK {
		t.Errorf("Func of the most bytes: %d, %d", at, e)
	}
	if l, e := check.Heights(m, looked); len(l) != 4095 || slices.Max(l) != 0 || e != api.OK {
		t.Errorf("Heights of the most bytes: %d, %d", len(l), e)
	}
}

// TestEach is of P16.1 and P16.2: each function is looked at by itself, whatever the others are.
func TestEach(t *testing.T) {
	m := with("(i64)->(i64)", "", "local.get 0; end")
	refused(t, "the first", m, 0, 1, api.ErrType)
	refused(t, "the last", m, 2, 0, api.ErrRange)
	if at, e := check.Func(m, looked); at != 0 || e != api.OK {
		t.Errorf("Func between them: %d, %d", at, e)
	}
	m.Funcs[0].Body, m.Funcs[2].Body = code.Body{}, code.Body{L: []instr.Instr{{Code: 6}}}
	if l, e := check.Heights(m, looked); !slices.Equal(l, []int{0, 1}) || e != api.OK {
		t.Errorf("Heights between them: %v, %d", l, e)
	}
	m.Imports = nil
	if at, e := check.Func(m, looked); at != 0 || e != api.OK {
		t.Errorf("Func without imports: %d, %d", at, e)
	}
}

// TestLocals is of P16.2: parameters first, then the body's own.
func TestLocals(t *testing.T) {
	for _, c := range []struct{ sig, locals, all string }{
		{"()->(i64)", "", ""},
		{"(i64)->()", "", "i64"},
		{"()->()", "i64 i32", "i64 i32"},
		{"(i32,i64)->(i32)", "i64 i64 i32", "i32 i64 i64 i64 i32"},
		{"(i32)->()", "?", "i32 ?"},
	} {
		m := with(c.sig, c.locals, "drop; end")
		localsAre(t, m, looked, list(c.all))
		// A body that isn't right, and a module that isn't fit, have locals as well.
		m.Funcs[looked].Body.L = nil
		m.Start = 99
		localsAre(t, m, looked, list(c.all))
	}
	m := with("()->()", "", "end")
	m.Funcs[2].Sig, m.Funcs[2].Body.Locals = 4, list("i64")
	localsAre(t, m, 2, list("i32 i32 i32 i32 i64"))
	localsAre(t, m, 0, nil)
	m.Sigs[7].Params = slices.Repeat(list("i32"), 20)
	m.Funcs[looked].Body.Locals = slices.Repeat(list("i64"), 50)
	localsAre(t, m, looked, slices.Concat(m.Sigs[7].Params, m.Funcs[looked].Body.Locals))
	for _, f := range []int{-1, 3, 4, 99, math.MaxInt, math.MinInt} {
		localsAre(t, m, f, nil)
	}
	localsAre(t, nil, 0, nil)
	localsAre(t, module.Empty(), 0, nil)
	// Of a signature that there isn't there are no parameters.
	for _, s := range []int{-1, 8, math.MaxInt} {
		m := with("(i32)->()", "i64", "end")
		m.Funcs[looked].Sig = s
		localsAre(t, m, looked, list("i64"))
	}
}

// localsAre holds Local and Locals.
func localsAre(t *testing.T, m *module.Module, f int, want []api.Type) {
	t.Helper()
	if n := check.Locals(m, f); n != len(want) {
		t.Errorf("Locals of %d: %d, not %d", f, n, len(want))
	}
	for i, w := range want {
		if got, ok := check.Local(m, f, i); got != w || !ok {
			t.Errorf("Local %d of %d: %d, %v, not %d", i, f, got, ok, w)
		}
	}
	for _, i := range []int{-1, len(want), len(want) + 1, math.MaxInt, math.MinInt} {
		if got, ok := check.Local(m, f, i); got != 0 || ok {
			t.Errorf("Local %d of %d: %d, %v", i, f, got, ok)
		}
	}
}

// TestStays is of rule 4: what is handed in stays as it was; what is answered is new.
func TestStays(t *testing.T) {
	fresh := func() *module.Module {
		m := with("(i32)->(i64,i32)", "i64", "block i64; local.get 0; i64.load 0 0 3; unreachable; end; i32.const 1; end")
		m.Sigs[7].Params = append(m.Sigs[7].Params, 9)[:1]
		return m
	}
	m := fresh()
	for f := range 4 {
		check.Func(m, f)
		check.Heights(m, f)
		check.Peak(m, f)
		check.Locals(m, f)
		check.Local(m, f, 0)
	}
	if !reflect.DeepEqual(m, fresh()) || m.Sigs[7].Params[:2][1] != 9 {
		t.Errorf("the module was changed: %+v", m)
	}
	a, _ := check.Heights(m, looked)
	b, _ := check.Heights(m, looked)
	clear(a)
	if !slices.Equal(b, []int{0, 0, 1, 1, 0, 1, 2}) {
		t.Errorf("Heights: %v", b)
	}
}
