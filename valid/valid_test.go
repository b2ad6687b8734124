package valid_test

import (
	"math"
	"reflect"
	"slices"
	"strings"
	"testing"

	"grommet/api"
	"grommet/code"
	"grommet/instr"
	"grommet/module"
	"grommet/text"
	"grommet/types"
	"grommet/valid"
)

// lines is a module of lines, with ; between; its bodies may be any that are closed.
func lines(t *testing.T, s string) *module.Module {
	t.Helper()
	m, at, e := text.Parse(strings.ReplaceAll(s, "; ", "\n") + "\n")
	if e != api.OK {
		t.Fatalf("Parse of %q: %d, %d", s, at, e)
	}
	return m
}

// some is a module that is valid, with some of all; each call makes a new one. Its own functions have the numbers 2 to 5, imports counted.
func some(t *testing.T) *module.Module {
	t.Helper()
	return lines(t, "sig ()->(); sig (i32)->(i64,i32); sig ()->(i32); import env a 0; import env b 1; "+
		"func 0; end; "+
		"func 1; locals i32 i32; i64.const 1; local.get 0; end; "+
		"func 2; i32.const 1; i32.const 2; i32.add; end; "+
		"func 0; call 0; end; "+
		"table 4; memory 1 2; global i32 const 1; export f func 2; start 2; elem 0 0 1; data 0 5 x07")
}

// wrong holds all findings of a module, their lines, and that the first one of them is the first one.
func wrong(t *testing.T, what string, m *module.Module, want ...string) {
	t.Helper()
	l := valid.All(m)
	var all []string
	for _, f := range l {
		all = append(all, valid.Line(f))
	}
	if !slices.Equal(all, want) {
		t.Errorf("All of %s: %q, not %q", what, all, want)
	}
	first, any := valid.First(m)
	if any != (len(want) > 0) || any && (len(l) == 0 || first != l[0]) || !any && (first != (valid.Finding{}) || l != nil) {
		t.Errorf("First of %s: %v, %v", what, first, any)
	}
	if valid.Is(m) != (len(want) == 0) {
		t.Errorf("Is of %s: %v", what, valid.Is(m))
	}
}

// TestFine is of P17.1: valid modules have no findings.
func TestFine(t *testing.T) {
	wrong(t, "an empty one", module.Empty())
	wrong(t, "some", some(t))
	wrong(t, "imports alone", lines(t, "sig ()->(); import env a 0; start 0"))
}

// TestFit is of P17.1: of a module that isn't fit its part alone is told, whatever its bodies are.
func TestFit(t *testing.T) {
	for _, c := range []struct {
		want string
		do   func(*module.Module)
	}{
		{"sigs 5", func(m *module.Module) { m.Sigs[0].Params = []api.Type{1} }},
		{"sigs 15", func(m *module.Module) { m.Sigs = make([]types.Sig, 51) }},
		{"imports 16", func(m *module.Module) { m.Imports[1].Name = "" }},
		{"funcs 2", func(m *module.Module) { m.Funcs[3].Sig = 3 }},
		{"table 15", func(m *module.Module) { m.Table = 1001 }},
		{"table 2", func(m *module.Module) { m.Table = -2 }},
		{"mems 5", func(m *module.Module) { m.Mems[0].Max = 0 }},
		{"globals 5", func(m *module.Module) { m.Globals[0].Value = 1 << 32 }},
		{"exports 16", func(m *module.Module) { m.Exports = append(m.Exports, m.Exports[0]) }},
		{"exports 2", func(m *module.Module) { m.Exports[0].Index = 6 }},
		{"start 5", func(m *module.Module) { m.Start = 3 }},
		{"start 2", func(m *module.Module) { m.Start = 6 }},
		{"elems 2", func(m *module.Module) { m.Elems[0].Funcs[1] = 6 }},
		{"data 2", func(m *module.Module) { m.Datas[0].At = 1 << 32 }},
		{"data 15", func(m *module.Module) { m.Datas[0].Bytes = make([]byte, 4097) }},
		{"funcs 2", func(m *module.Module) { m.Funcs[1].Sig, m.Start = -1, 99 }},
	} {
		m := some(t)
		c.do(m)
		wrong(t, c.want, m, c.want)
		// Bodies aren't looked at then.
		m.Funcs[0].Body, m.Funcs[2].Body.L = code.Body{}, []instr.Instr{{Code: 6}}
		wrong(t, c.want, m, c.want)
		f, _ := valid.First(m)
		part, _, _ := strings.Cut(c.want, " ")
		if _, e := m.Fit(); f != (valid.Finding{Where: part, Func: -1, Err: e}) {
			t.Errorf("First of %s: %v", c.want, f)
		}
	}
	wrong(t, "one with a start that there isn't", &module.Module{Table: -1}, "start 2")
	wrong(t, "nil", nil, " 12")
	if f, any := valid.First(nil); f != (valid.Finding{Func: -1, Err: api.ErrState}) || !any {
		t.Errorf("First of nil: %v, %v", f, any)
	}
}

// TestBodies is of P17.1: the first place of each body that isn't well typed, by functions' own numbers.
func TestBodies(t *testing.T) {
	for _, c := range []struct {
		f    int
		body string
		want string
	}{
		{0, "drop; end", "func 0 0 5"},
		{0, "nop; nop; i32.const 1; end", "func 0 3 5"},
		{0, "nop; local.get 0; drop; drop; end", "func 0 1 2"},
		{0, "nop; nop; call 6; drop; end", "func 0 2 2"},
		{1, "i64.const 1; end", "func 1 1 5"},
		{1, "i64.const 1; local.get 3; end", "func 1 1 2"},
		{2, "i32.const 1; block i32; i64.const 1; end; end", "func 2 3 5"},
		{3, "global.set 0; end", "func 3 0 5"},
		{3, "unreachable; global.set 0; drop; br 1; end", "func 3 1 5"},
		{3, "unreachable; drop; br 1; drop; global.set 1; end", "func 3 2 2"},
		// A body that has no bytes.
		{2, "drop; block; end", "func 2 0 4"},
		{3, strings.Repeat("block; ", 65) + "end", "func 3 0 15"},
		{1, strings.Repeat("nop; ", 4095) + "end", "func 1 0 15"},
	} {
		m := some(t)
		m.Funcs[c.f].Body.L = row(c.body)
		wrong(t, c.want, m, c.want)
		place := len("func 0 ")
		f, _ := valid.First(m)
		if f.Where != "func" || f.Func != c.f || !strings.HasPrefix(c.want[place:], words(f.Place)+" ") {
			t.Errorf("First of %s: %v", c.want, f)
		}
	}
	m := some(t)
	m.Funcs[1].Body.Locals[0] = 9
	wrong(t, "a local of another type", m, "func 1 0 1")
	m = some(t)
	m.Funcs[2].Body = code.Body{}
	wrong(t, "no body", m, "func 2 0 4")
}

// TestMany is of P17.1: findings of many bodies, in order.
func TestMany(t *testing.T) {
	m := some(t)
	m.Funcs[0].Body.L = row("nop; drop; drop; end")
	m.Funcs[2].Body.L = nil
	m.Funcs[3].Body.L = row("call 99; end")
	wrong(t, "three", m, "func 0 1 5", "func 2 0 4", "func 3 0 2")
	m.Funcs[1].Body.L = row("end")
	wrong(t, "all", m, "func 0 1 5", "func 1 0 5", "func 2 0 4", "func 3 0 2")
	m.Funcs[0].Body.L = row("end")
	wrong(t, "all but the first one", m, "func 1 0 5", "func 2 0 4", "func 3 0 2")
	// As many as there may be.
	m = some(t)
	m.Funcs = nil
	var want []string
	for f := range 98 {
		body := []string{"end", "nop; br 1; end", "i64.const 1; end"}[f%3]
		m.Funcs = append(m.Funcs, module.Func{Body: code.Body{L: row(body)}})
		if f%3 > 0 {
			want = append(want, "func "+words(f)+" 1 "+[]string{"", "2", "5"}[f%3])
		}
	}
	wrong(t, "98 functions", m, want...)
	m.Funcs = append(m.Funcs, m.Funcs[0])
	wrong(t, "99 functions", m, "funcs 15")
}

// TestLine is of P17.1: lines of any findings.
func TestLine(t *testing.T) {
	for _, c := range []struct {
		f    valid.Finding
		want string
	}{
		{valid.Finding{}, " 0 0 0"},
		{valid.Finding{"func", 2, 0, api.ErrType}, "func 2 0 5"},
		{valid.Finding{"func", 0, 17, api.ErrRange}, "func 0 17 2"},
		{valid.Finding{"func", 99, 4094, api.ErrLong}, "func 99 4094 15"},
		{valid.Finding{"sigs", -1, 0, api.ErrType}, "sigs 5"},
		{valid.Finding{"sigs", -1, 7, api.ErrName}, "sigs 16"},
		{valid.Finding{"", -1, 0, api.ErrState}, " 12"},
		{valid.Finding{"func", -1, 3, api.ErrType}, "func 5"},
		{valid.Finding{"data", 0, 0, api.ErrRange}, "data 0 0 2"},
		{valid.Finding{"any text\n", math.MaxInt, math.MinInt, 1000}, "any text\n 9223372036854775807 -9223372036854775808 1000"},
		{valid.Finding{"x", math.MinInt, 1, -3}, "x -3"},
		{valid.Finding{"x", 1, -1, api.OK}, "x 1 -1 0"},
	} {
		if got := valid.Line(c.f); got != c.want {
			t.Errorf("Line of %v: %q, not %q", c.f, got, c.want)
		}
	}
}

// TestUnreachable is of P17.3: with bodies of unreachable and end alone a module that is fit is valid.
func TestUnreachable(t *testing.T) {
	m := some(t)
	for i := range m.Funcs {
		m.Funcs[i].Body.L = row("unreachable; end")
	}
	wrong(t, "some", m)
	many := slices.Repeat([]api.Type{api.I64, api.I32}, 10)
	for _, params := range [][]api.Type{nil, {api.I32}, {api.I64}, many} {
		for _, results := range [][]api.Type{nil, {api.I32}, {api.I64}, many} {
			for _, locals := range [][]api.Type{nil, {api.I32}, many, slices.Repeat([]api.Type{api.I32}, 50)} {
				m := module.Empty()
				m.Sigs = []types.Sig{{Params: params, Results: results}}
				m.Funcs = slices.Repeat([]module.Func{{Body: code.Body{Locals: locals, L: row("unreachable; end")}}}, 100)
				wrong(t, "unreachable", m)
			}
		}
	}
}

// TestStays is of rule 4: what is handed in stays as it was, and what is answered is new.
func TestStays(t *testing.T) {
	fresh := func() *module.Module {
		m := some(t)
		m.Funcs[3].Body.L = row("call 5; call 1; drop; drop; drop; call 0; call 5; end")
		return m
	}
	m := fresh()
	for range 2 {
		for f := range 5 {
			valid.Need(m, f)
			clear(valid.Calls(m, f))
		}
		clear(valid.All(m))
		wrong(t, "what was asked", m, "func 3 1 5")
		if !reflect.DeepEqual(m, fresh()) {
			t.Fatalf("the module was changed: %+v", m)
		}
	}
}
