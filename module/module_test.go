package module_test

import (
	"math"
	"reflect"
	"strings"
	"testing"

	"grommet/api"
	"grommet/code"
	"grommet/instr"
	"grommet/module"
	"grommet/types"
)

// sig is the signature of a text.
func sig(s string) types.Sig {
	x, e := types.ParseSig(s)
	if e != api.OK {
		panic(s)
	}
	return x
}

// body is one of locals and codes.
func body(locals []api.Type, codes ...int) code.Body {
	b := code.Body{Locals: locals}
	for _, c := range codes {
		b.L = append(b.L, instr.Instr{Code: c})
	}
	return b
}

// some is a module that is fit, with some of all; each call makes a new one.
func some() *module.Module {
	return &module.Module{
		Sigs:    []types.Sig{sig("()->()"), sig("(i32,i64)->(i64)"), sig("(i64)->()"), sig("()->(i32)")},
		Imports: []module.Import{{Module: "env", Name: "put", Sig: 0}, {Module: "env", Name: "get", Sig: 1}},
		Funcs: []module.Func{
			{Sig: 0, Body: body(nil, 1, 11)},
			{Sig: 2, Body: code.Body{Locals: []api.Type{api.I32, api.I64}, L: []instr.Instr{{Code: 65, A: 7}, {Code: 14, A: 1, L: []uint64{0, 0}}, {Code: 11}}}},
			{Sig: 3, Body: code.Body{L: []instr.Instr{{Code: 40, A: 1, B: 2, Align: 2}, {Code: 11}}}},
		},
		Table:   5,
		Mems:    []types.Limits{{Min: 1, Max: 2}, {Min: 0, Max: -1, Wide: true}},
		Globals: []module.Global{{Type: api.I32, Value: math.MaxUint32}, {Type: api.I64, Mutable: true, Value: math.MaxUint64}},
		Exports: []module.Export{
			{Name: "f", Kind: module.KindFunc, Index: 4}, {Name: "t", Kind: module.KindTable, Index: 0},
			{Name: "m", Kind: module.KindMem, Index: 1}, {Name: "g", Kind: module.KindGlobal, Index: 1},
		},
		Start: 2,
		Elems: []module.Elem{{At: 3, Funcs: []int{0, 4}}, {At: math.MaxUint32}},
		Datas: []module.Data{{Mem: 0, At: math.MaxUint32, Bytes: []byte{1, 2}}, {Mem: 1, At: 1 << 32}, {Mem: 1, At: math.MaxUint64, Bytes: []byte{0}}},
	}
}

// TestKinds is of the words: what exports are, and what none is.
func TestKinds(t *testing.T) {
	if module.KindFunc != 0 || module.KindTable != 1 || module.KindMem != 2 || module.KindGlobal != 3 || module.NoTable != -1 || module.NoStart != -1 {
		t.Error("constants")
	}
}

// TestEmpty is of P13.2 and P13.3: without anything, fit, and each a new one.
func TestEmpty(t *testing.T) {
	m := module.Empty()
	if !reflect.DeepEqual(m, &module.Module{Table: -1, Start: -1}) {
		t.Fatalf("Empty: %+v", m)
	}
	if s, e := m.Fit(); s != "" || e != api.OK || m.Count() != 0 {
		t.Errorf("Fit: %q, %d; Count: %d", s, e, m.Count())
	}
	m.Table, m.Start = 3, 7
	if x := module.Empty(); x.Table != -1 || x.Start != -1 {
		t.Errorf("Empty: %+v", x)
	}
}

// TestNamed is of P13.2: texts of 1 to 30 bytes, all from 33 to 126.
func TestNamed(t *testing.T) {
	for n := range 70 {
		if s := strings.Repeat("x", n); module.Named(s) != (n >= 1 && n <= 30) {
			t.Errorf("Named(%q): %t", s, module.Named(s))
		}
	}
	for c := range 256 {
		want := c >= 33 && c <= 126
		one := string([]byte{byte(c)})
		for n := range 30 {
			for at := range n + 1 {
				if s := strings.Repeat("!", at) + one + strings.Repeat("~", n-at); module.Named(s) != want {
					t.Errorf("Named(%q): %t", s, !want)
				}
			}
		}
	}
	for _, s := range []string{"\u00e9", "a\u0142b", "\xff\xfe", "a b", "a\n", strings.Repeat("x", 30) + " ", strings.Repeat("x", 30) + "\x00", strings.Repeat("x", 256), strings.Repeat("x", 256+5), strings.Repeat("x", api.MaxText)} {
		if module.Named(s) {
			t.Errorf("Named(%.40q)", s)
		}
	}
}

// TestSig is of P13.2: imports first, then functions; of numbers without one nothing.
func TestSig(t *testing.T) {
	m := some()
	want := []string{"()->()", "(i32,i64)->(i64)", "()->()", "(i64)->()", "()->(i32)"}
	if m.Count() != len(want) {
		t.Fatalf("Count: %d", m.Count())
	}
	for f, w := range want {
		if s, ok := m.Sig(f); !ok || s.Print() != w {
			t.Errorf("Sig(%d): %s, %t", f, s.Print(), ok)
		}
	}
	for _, f := range []int{-1, -2, 5, 6, 100, 1 << 31, 1 << 32, math.MaxInt, math.MinInt} {
		noSig(t, m, f)
	}
	noSig(t, module.Empty(), 0)
}

// noSig holds Sig against nothing.
func noSig(t *testing.T, m *module.Module, f int) {
	t.Helper()
	if s, ok := m.Sig(f); ok || s.Params != nil || s.Results != nil {
		t.Errorf("Sig(%d): %v, %t", f, s, ok)
	}
}

// TestSigUnfit is of P13.2: of a module that isn't fit, functions whose signature isn't there have none; others have theirs as it stands.
func TestSigUnfit(t *testing.T) {
	for _, n := range []int{-1, 4, 5, math.MaxInt, math.MinInt} {
		m := some()
		m.Imports[1].Sig = n
		m.Funcs[0].Sig = n
		noSig(t, m, 1)
		noSig(t, m, 2)
		for _, f := range []int{0, 3, 4} {
			if _, ok := m.Sig(f); !ok {
				t.Errorf("Sig(%d): none", f)
			}
		}
	}
	m := some()
	m.Sigs[2] = types.Sig{Params: []api.Type{9}, Results: make([]api.Type, 21)}
	if s, ok := m.Sig(3); !ok || !types.Same(s, m.Sigs[2]) {
		t.Errorf("Sig: %v, %t", s, ok)
	}
	m.Sigs = nil
	for f := range m.Count() {
		noSig(t, m, f)
	}
}

// TestSigNew is of P13.2: what is answered is new memory.
func TestSigNew(t *testing.T) {
	m := some()
	m.Sigs[1].Params = append(make([]api.Type, 0, 9), m.Sigs[1].Params...)
	s, _ := m.Sig(1)
	s.Params[0], s.Results[0] = 1, 2
	_ = append(s.Params[:1], 3, 4, 5)
	if !reflect.DeepEqual(m, some()) || m.Sigs[1].Params[:3][2] != 0 {
		t.Errorf("Sig: %v", m.Sigs)
	}
}

// TestCount is of P13.2: imports and functions, of any module.
func TestCount(t *testing.T) {
	for imports := range 30 {
		for funcs := range 110 {
			m := &module.Module{Imports: make([]module.Import, imports), Funcs: make([]module.Func, funcs)}
			if n := m.Count(); n != imports+funcs {
				t.Errorf("Count: %d, not %d", n, imports+funcs)
			}
		}
	}
}

// TestFind is of P13.2: the export of just that name.
func TestFind(t *testing.T) {
	m := some()
	m.Exports = append(m.Exports, module.Export{Name: "longer", Kind: 9, Index: -4}, module.Export{Name: "f", Kind: 3, Index: 0}, module.Export{Name: "", Kind: 7, Index: 8})
	for name, i := range map[string]int{"f": 0, "t": 1, "m": 2, "g": 3, "longer": 4, "": 6} {
		if x, ok := m.Find(name); !ok || x != m.Exports[i] {
			t.Errorf("Find(%q): %v, %t", name, x, ok)
		}
	}
	for _, name := range []string{"F", "f ", " f", "f\x00", "long", "longer ", "longest", "x", "env", "put", strings.Repeat("f", api.MaxText)} {
		if x, ok := m.Find(name); ok || x != (module.Export{}) {
			t.Errorf("Find(%q): %v, %t", name, x, ok)
		}
	}
	for _, name := range []string{"", "f"} {
		if x, ok := module.Empty().Find(name); ok || x != (module.Export{}) {
			t.Errorf("Find(%q): %v, %t", name, x, ok)
		}
	}
}

// TestNil is of P13.1 and P13.2: nothing of nil.
func TestNil(t *testing.T) {
	var m *module.Module
	if s, e := m.Fit(); s != "" || e != api.ErrState {
		t.Errorf("Fit: %q, %d", s, e)
	}
	for _, f := range []int{-1, 0, 1} {
		noSig(t, m, f)
	}
	for _, name := range []string{"", "f"} {
		if x, ok := m.Find(name); ok || x != (module.Export{}) {
			t.Errorf("Find(%q): %v, %t", name, x, ok)
		}
	}
	if m.Count() != 0 {
		t.Errorf("Count: %d", m.Count())
	}
	if !module.Same(nil, nil) || module.Same(nil, module.Empty()) || module.Same(module.Empty(), nil) || module.Same(&module.Module{}, nil) {
		t.Error("Same of nil")
	}
}

// others are changes of some, each of one number, text or list, of which each makes another module.
func others() []func(*module.Module) {
	return []func(*module.Module){
		func(m *module.Module) { m.Sigs = nil },
		func(m *module.Module) { m.Sigs = m.Sigs[:3] },
		func(m *module.Module) { m.Sigs = m.Sigs[1:] },
		func(m *module.Module) { m.Sigs = append(m.Sigs, types.Sig{}) },
		func(m *module.Module) { m.Sigs[0], m.Sigs[1] = m.Sigs[1], m.Sigs[0] },
		func(m *module.Module) { m.Sigs[0].Params = []api.Type{api.I32} },
		func(m *module.Module) { m.Sigs[1].Params[1] = api.I32 },
		func(m *module.Module) { m.Sigs[1].Results[0] = api.I32 },
		func(m *module.Module) { m.Sigs[3].Results = nil },
		func(m *module.Module) { m.Sigs[3] = types.Sig{Params: m.Sigs[3].Results} },
		func(m *module.Module) { m.Imports = nil },
		func(m *module.Module) { m.Imports = m.Imports[:1] },
		func(m *module.Module) { m.Imports = append(m.Imports, module.Import{}) },
		func(m *module.Module) { m.Imports[0], m.Imports[1] = m.Imports[1], m.Imports[0] },
		func(m *module.Module) { m.Imports[0].Module = "Env" },
		func(m *module.Module) { m.Imports[1].Name = "get2" },
		func(m *module.Module) { m.Imports[1].Sig = 0 },
		func(m *module.Module) { m.Imports[0].Module, m.Imports[0].Name = "put", "env" },
		func(m *module.Module) { m.Funcs = nil },
		func(m *module.Module) { m.Funcs = m.Funcs[:2] },
		func(m *module.Module) { m.Funcs = append(m.Funcs, module.Func{}) },
		func(m *module.Module) { m.Funcs[0], m.Funcs[1] = m.Funcs[1], m.Funcs[0] },
		func(m *module.Module) { m.Funcs[1].Sig = 0 },
		func(m *module.Module) { m.Funcs[0].Body = code.Body{} },
		func(m *module.Module) { m.Funcs[0].Body.Locals = []api.Type{api.I32} },
		func(m *module.Module) { m.Funcs[1].Body.Locals[1] = api.I32 },
		func(m *module.Module) { m.Funcs[1].Body.Locals = m.Funcs[1].Body.Locals[:1] },
		func(m *module.Module) { m.Funcs[0].Body.L[0].Code = 0 },
		func(m *module.Module) { m.Funcs[1].Body.L[0].A = 8 },
		func(m *module.Module) { m.Funcs[1].Body.L[1].L[1] = 1 },
		func(m *module.Module) { m.Funcs[1].Body.L[1].L = nil },
		func(m *module.Module) { m.Funcs[2].Body.L[0].B = 3 },
		func(m *module.Module) { m.Funcs[2].Body.L[0].Align = 1 },
		func(m *module.Module) { m.Funcs[2].Body.L = m.Funcs[2].Body.L[:1] },
		func(m *module.Module) { m.Table = 4 },
		func(m *module.Module) { m.Table = 0 },
		func(m *module.Module) { m.Table = -1 },
		func(m *module.Module) { m.Mems = nil },
		func(m *module.Module) { m.Mems = m.Mems[:1] },
		func(m *module.Module) { m.Mems = append(m.Mems, types.Limits{}) },
		func(m *module.Module) { m.Mems[0].Min = 0 },
		func(m *module.Module) { m.Mems[0].Max = 3 },
		func(m *module.Module) { m.Mems[0].Wide = true },
		func(m *module.Module) { m.Mems[1].Max = -2 },
		func(m *module.Module) { m.Globals = nil },
		func(m *module.Module) { m.Globals = m.Globals[1:] },
		func(m *module.Module) { m.Globals = append(m.Globals, module.Global{}) },
		func(m *module.Module) { m.Globals[0].Type = api.I64 },
		func(m *module.Module) { m.Globals[0].Mutable = true },
		func(m *module.Module) { m.Globals[1].Value-- },
		func(m *module.Module) { m.Exports = nil },
		func(m *module.Module) { m.Exports = m.Exports[:3] },
		func(m *module.Module) { m.Exports = append(m.Exports, module.Export{}) },
		func(m *module.Module) { m.Exports[0], m.Exports[1] = m.Exports[1], m.Exports[0] },
		func(m *module.Module) { m.Exports[0].Name = "F" },
		func(m *module.Module) { m.Exports[2].Kind = 3 },
		func(m *module.Module) { m.Exports[3].Index = 0 },
		func(m *module.Module) { m.Start = -1 },
		func(m *module.Module) { m.Start = 0 },
		func(m *module.Module) { m.Elems = nil },
		func(m *module.Module) { m.Elems = m.Elems[:1] },
		func(m *module.Module) { m.Elems = append(m.Elems, module.Elem{}) },
		func(m *module.Module) { m.Elems[0].At = 4 },
		func(m *module.Module) { m.Elems[1].At = math.MaxUint64 },
		func(m *module.Module) { m.Elems[0].Funcs[1] = 3 },
		func(m *module.Module) { m.Elems[0].Funcs = m.Elems[0].Funcs[:1] },
		func(m *module.Module) { m.Elems[1].Funcs = []int{0} },
		func(m *module.Module) { m.Datas = nil },
		func(m *module.Module) { m.Datas = m.Datas[:2] },
		func(m *module.Module) { m.Datas = append(m.Datas, module.Data{}) },
		func(m *module.Module) { m.Datas[0].Mem = 1 },
		func(m *module.Module) { m.Datas[0].At = 0 },
		func(m *module.Module) { m.Datas[0].Bytes[1] = 3 },
		func(m *module.Module) { m.Datas[0].Bytes = m.Datas[0].Bytes[:1] },
		func(m *module.Module) { m.Datas[1].Bytes = []byte{0} },
		func(m *module.Module) { m.Datas[2].Bytes = nil },
	}
}

// TestSame is of P13.2: modules are the same if all their parts are, and else not.
func TestSame(t *testing.T) {
	if !module.Same(some(), some()) || !module.Same(module.Empty(), module.Empty()) || module.Same(some(), module.Empty()) || module.Same(module.Empty(), &module.Module{}) {
		t.Error("Same of whole modules")
	}
	all := others()
	for i, change := range all {
		a, b := some(), some()
		change(a)
		if module.Same(a, b) || module.Same(b, a) {
			t.Errorf("change %d: the same", i)
		}
		if change(b); !module.Same(a, b) || !module.Same(a, a) {
			t.Errorf("change %d: not the same as itself", i)
		}
		for j, other := range all[:i] {
			c := some()
			if other(c); module.Same(a, c) {
				t.Errorf("changes %d and %d: the same", i, j)
			}
		}
	}
}

// TestSameNone is of P13.2: lists without elements are the same as none.
func TestSameNone(t *testing.T) {
	a := &module.Module{Sigs: []types.Sig{{}}, Funcs: []module.Func{{}}, Elems: []module.Elem{{}}, Datas: []module.Data{{}}}
	b := &module.Module{
		Sigs: []types.Sig{{Params: []api.Type{}, Results: []api.Type{}}}, Funcs: []module.Func{{Body: code.Body{Locals: []api.Type{}, L: []instr.Instr{}}}},
		Elems: []module.Elem{{Funcs: []int{}}}, Datas: []module.Data{{Bytes: []byte{}}}, Imports: []module.Import{}, Mems: []types.Limits{}, Globals: []module.Global{}, Exports: []module.Export{},
	}
	if !module.Same(a, b) || !module.Same(b, a) {
		t.Error("Same of lists without elements")
	}
	c := &module.Module{Sigs: []types.Sig{}, Funcs: []module.Func{}, Elems: []module.Elem{}, Datas: []module.Data{}}
	if !module.Same(&module.Module{}, c) || !module.Same(c, &module.Module{}) || module.Same(a, c) {
		t.Error("Same of lists without elements")
	}
}

// TestLetBe is of rule 4: what is handed in stays as it is.
func TestLetBe(t *testing.T) {
	m := some()
	m.Fit()
	m.Sig(1)
	m.Find("g")
	m.Count()
	module.Same(m, module.Empty())
	module.Same(module.Empty(), m)
	if !reflect.DeepEqual(m, some()) {
		t.Errorf("it was changed: %+v", m)
	}
}
