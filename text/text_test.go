package text_test

import (
	"math"
	"reflect"
	"slices"
	"strconv"
	"strings"
	"testing"

	"grommet/api"
	"grommet/code"
	"grommet/instr"
	"grommet/module"
	"grommet/text"
	"grommet/types"
)

// sig is the signature of a text.
func sig(s string) types.Sig {
	x, e := types.ParseSig(s)
	if e != api.OK {
		panic(s)
	}
	return x
}

// body is one of locals and codes.
func body(locals []api.Type, codes ...int) code.Body {
	b := code.Body{Locals: locals}
	for _, c := range codes {
		b.L = append(b.L, instr.Instr{Code: c})
	}
	return b
}

// some is a module that is fit, with some of all; each call makes a new one.
func some() *module.Module {
	return &module.Module{
		Sigs:    []types.Sig{sig("()->()"), sig("(i32,i64)->(i64)"), sig("()->(i32)")},
		Imports: []module.Import{{Module: "env", Name: "put", Sig: 0}, {Module: "sig", Name: "x-1!", Sig: 1}},
		Funcs: []module.Func{
			{Sig: 0, Body: code.Body{L: []instr.Instr{{Code: 65}, {Code: 4, A: 64}, {Code: 2, A: 127}, {Code: 65, A: math.MaxUint32}, {Code: 11}, {Code: 26}, {Code: 5}, {Code: 1}, {Code: 11}, {Code: 11}}}},
			{Sig: 2, Body: code.Body{Locals: []api.Type{api.I32, api.I64, api.I32}, L: []instr.Instr{{Code: 41, A: 1, B: 8, Align: 3}, {Code: 14, L: []uint64{0, 1}, A: 2}, {Code: 11}}}},
			{Sig: 0, Body: body(nil, 11)},
		},
		Table:   5,
		Mems:    []types.Limits{{Min: 1, Max: 2}, {Min: 0, Max: -1, Wide: true}, {Min: 3, Max: -1}, {Min: 200, Max: 65536, Wide: true}},
		Globals: []module.Global{{Type: api.I32, Value: math.MaxUint32}, {Type: api.I64, Mutable: true, Value: 1 << 63}, {Type: api.I32, Mutable: true, Value: 1<<31 - 1}, {Type: api.I64, Value: math.MaxUint32}},
		Exports: []module.Export{
			{Name: "f", Kind: module.KindFunc, Index: 3}, {Name: "t", Kind: module.KindTable, Index: 0},
			{Name: "func", Kind: module.KindMem, Index: 1}, {Name: "g~", Kind: module.KindGlobal, Index: 3},
		},
		Start: 2,
		Elems: []module.Elem{{At: 3, Funcs: []int{0, 3}}, {At: math.MaxUint32}},
		Datas: []module.Data{{Mem: 0, At: math.MaxUint32, Bytes: []byte{1, 0xaf}}, {Mem: 1, At: 1 << 32}, {Mem: 3, At: math.MaxUint64, Bytes: []byte{0, 255, 16}}},
	}
}

// someLines are its lines.
func someLines() []string {
	return []string{
		"sig ()->()", "sig (i32,i64)->(i64)", "sig ()->(i32)",
		"import env put 0", "import sig x-1! 1",
		"func 0", "i32.const 0", "if", "block i32", "i32.const -1", "end", "drop", "else", "nop", "end", "end",
		"func 2", "locals i32 i64 i32", "i64.load 1 8 3", "br_table 0 1 2", "end",
		"func 0", "end",
		"table 5",
		"memory 1 2", "memory 0 - i64", "memory 3 -", "memory 200 65536 i64",
		"global i32 const -1", "global i64 var -9223372036854775808", "global i32 var 2147483647", "global i64 const 4294967295",
		"export f func 3", "export t table 0", "export func memory 1", "export g~ global 3",
		"start 2",
		"elem 3 0 3", "elem 4294967295",
		"data 0 4294967295 x01af", "data 1 4294967296 x", "data 3 18446744073709551615 x00ff10",
	}
}

// same tells whether two modules have the same parts, none and no elements being the same; it leans on nothing of the project.
func same(a, b *module.Module) bool {
	return reflect.DeepEqual(plain(a), plain(b))
}

// plain is a module whose lists without elements are none.
func plain(m *module.Module) *module.Module {
	if m == nil {
		return nil
	}
	x := *m
	x.Funcs = slices.Clone(m.Funcs)
	for i := range x.Funcs {
		b := &x.Funcs[i].Body
		b.Locals, b.L = none(b.Locals), none(slices.Clone(b.L))
		for j := range b.L {
			b.L[j].L = none(b.L[j].L)
		}
	}
	x.Sigs, x.Elems, x.Datas = slices.Clone(m.Sigs), slices.Clone(m.Elems), slices.Clone(m.Datas)
	for i, s := range x.Sigs {
		x.Sigs[i] = types.Sig{Params: none(s.Params), Results: none(s.Results)}
	}
	for i := range x.Elems {
		x.Elems[i].Funcs = none(x.Elems[i].Funcs)
	}
	for i := range x.Datas {
		x.Datas[i].Bytes = none(x.Datas[i].Bytes)
	}
	x.Sigs, x.Imports, x.Funcs, x.Mems = none(x.Sigs), none(x.Imports), none(x.Funcs), none(x.Mems)
	x.Globals, x.Exports, x.Elems, x.Datas = none(x.Globals), none(x.Exports), none(x.Elems), none(x.Datas)
	return &x
}

// none is no list instead of one without elements.
func none[T any](l []T) []T {
	if len(l) == 0 {
		return nil
	}
	return l
}

// with is an empty module that was changed.
func with(do func(*module.Module)) *module.Module {
	m := module.Empty()
	do(m)
	return m
}

// ended is lines, each ended by a newline.
func ended(l []string) string {
	var s string
	for _, x := range l {
		s += x + "\n"
	}
	return s
}

// both holds Write and Text against lines, and reads these.
func both(t *testing.T, m *module.Module, want []string) {
	t.Helper()
	l, e := text.Write(m)
	if !slices.Equal(l, want) || e != api.OK {
		t.Errorf("Write: %q, %d, not %q", l, e, want)
	}
	if s, e := text.Text(m); s != ended(want) || e != api.OK {
		t.Errorf("Text: %q, %d, not %q", s, e, want)
	}
	read(t, want, m, 0, api.OK)
}

// read holds Read, and Parse of the same lines.
func read(t *testing.T, l []string, want *module.Module, place int, err api.Errno) {
	t.Helper()
	m, at, e := text.Read(l)
	if !same(m, want) || at != place || e != err {
		t.Errorf("Read of %.400q: %+v, %d, %d, not %+v, %d, %d", l, m, at, e, want, place, err)
	}
	s := ended(l)
	if strings.Count(s, "\n") != len(l) || len(s) > api.MaxText {
		return
	}
	m, at, e = text.Parse(s)
	if !same(m, want) || at != place || e != err {
		t.Errorf("Parse of %.400q: %+v, %d, %d, not %+v, %d, %d", s, m, at, e, want, place, err)
	}
}

// TestWrite is of P15.1: a module's lines, in their order, and P15.2: they are read.
func TestWrite(t *testing.T) {
	both(t, module.Empty(), nil)
	both(t, some(), someLines())
	for line, m := range map[string]*module.Module{
		"sig (i64)->(i32,i64)":   with(func(m *module.Module) { m.Sigs = []types.Sig{sig("(i64)->(i32,i64)")} }),
		"table 0":                with(func(m *module.Module) { m.Table = 0 }),
		"table 1000":             with(func(m *module.Module) { m.Table = 1000 }),
		"memory 0 0":             with(func(m *module.Module) { m.Mems = []types.Limits{{}} }),
		"memory 65536 65536 i64": with(func(m *module.Module) { m.Mems = []types.Limits{{Min: 65536, Max: 65536, Wide: true}} }),
		"global i32 var 0":       with(func(m *module.Module) { m.Globals = []module.Global{{Type: api.I32, Mutable: true}} }),
		"global i64 const -1":    with(func(m *module.Module) { m.Globals = []module.Global{{Type: api.I64, Value: math.MaxUint64}} }),
		"global i32 const -2147483648": with(func(m *module.Module) {
			m.Globals = []module.Global{{Type: api.I32, Value: 1 << 31}}
		}),
		"global i64 const 2147483648": with(func(m *module.Module) {
			m.Globals = []module.Global{{Type: api.I64, Value: 1 << 31}}
		}),
	} {
		both(t, m, []string{line})
	}
	both(t, with(func(m *module.Module) {
		m.Sigs, m.Funcs = []types.Sig{sig("()->(i32)")}, []module.Func{{Body: code.Body{L: []instr.Instr{{Code: 65, A: 5}, {Code: 11}}}}}
	}), []string{"sig ()->(i32)", "func 0", "i32.const 5", "end"})
	m := with(func(m *module.Module) { m.Mems = []types.Limits{{Max: -7}} })
	if l, e := text.Write(m); !slices.Equal(l, []string{"memory 0 -"}) || e != api.OK {
		t.Errorf("Write of another number below 0: %q, %d", l, e)
	}
}

// TestWriteMost is of P15.1: as much of all as there may be.
func TestWriteMost(t *testing.T) {
	m, want := module.Empty(), []string(nil)
	add := func(l ...string) { want = append(want, strings.Join(l, " ")) }
	long := "(" + strings.Repeat("i64,", 19) + "i32)"
	for range 49 {
		m.Sigs = append(m.Sigs, sig(long+"->"+long))
		add("sig", long+"->"+long)
	}
	m.Sigs = append(m.Sigs, types.Sig{})
	add("sig ()->()")
	name := strings.Repeat("!", 28)
	for range 20 {
		m.Imports = append(m.Imports, module.Import{Module: name + "~~", Name: name + "zz", Sig: 48})
		add("import", name+"~~", name+"zz", "48")
	}
	deep := code.Body{Locals: make([]api.Type, 50)}
	for i := range deep.Locals {
		deep.Locals[i] = api.I64
	}
	for range 64 {
		deep.L = append(deep.L, instr.Instr{Code: 3, A: 64})
	}
	deep.L = append(deep.L, body(nil, slices.Repeat([]int{11}, 65)...).L...)
	for range 80 {
		m.Funcs = append(m.Funcs, module.Func{Sig: 49, Body: deep})
		add("func 49")
		add("locals" + strings.Repeat(" i64", 50))
		want = append(append(want, slices.Repeat([]string{"loop"}, 64)...), slices.Repeat([]string{"end"}, 65)...)
	}
	m.Table, m.Start = 1000, 99
	add("table 1000")
	for range 4 {
		m.Mems = append(m.Mems, types.Limits{Min: 65536, Max: -1, Wide: true})
		add("memory 65536 - i64")
	}
	for range 50 {
		m.Globals = append(m.Globals, module.Global{Type: api.I64, Mutable: true, Value: 1<<63 - 1})
		add("global i64 var 9223372036854775807")
	}
	for i := range 50 {
		m.Exports = append(m.Exports, module.Export{Name: name + strconv.Itoa(10+i), Kind: module.KindMem, Index: 3})
		add("export", name+strconv.Itoa(10+i), "memory 3")
	}
	add("start 99")
	for range 20 {
		m.Elems = append(m.Elems, module.Elem{At: math.MaxUint32, Funcs: slices.Repeat([]int{99}, 20)})
		add("elem 4294967295" + strings.Repeat(" 99", 20))
	}
	for range 20 {
		m.Datas = append(m.Datas, module.Data{Mem: 3, At: math.MaxUint64, Bytes: []byte(strings.Repeat("\xfe", 4096))})
		add("data 3 18446744073709551615 x" + strings.Repeat("fe", 4096))
	}
	both(t, m, want)
}

// TestWriteHex is of P15.1: all bytes, and addresses around all powers of 2.
func TestWriteHex(t *testing.T) {
	m := with(func(m *module.Module) {
		m.Mems, m.Datas = []types.Limits{{Max: -1, Wide: true}}, []module.Data{{}}
	})
	var hex string
	for c := range 256 {
		m.Datas[0].Bytes = append(m.Datas[0].Bytes, byte(c))
		hex += strconv.FormatInt(int64(c+256), 16)[1:]
	}
	for k := range 64 {
		for _, a := range []uint64{1 << k, 1<<k - 1, 1<<k + 1, -(1 << k)} {
			m.Datas[0].At = a
			both(t, m, []string{"memory 0 - i64", "data 0 " + strconv.FormatUint(a, 10) + " x" + hex})
		}
	}
}

// TestWriteWrong is of P15.1: Fit's errors ahead of those of bodies, these in order.
func TestWriteWrong(t *testing.T) {
	wrong := func(m *module.Module, want api.Errno) {
		t.Helper()
		if l, e := text.Write(m); l != nil || e != want {
			t.Errorf("Write: %q, %d, not %d", l, e, want)
		}
		if s, e := text.Text(m); s != "" || e != want {
			t.Errorf("Text: %q, %d, not %d", s, e, want)
		}
	}
	wrong(nil, api.ErrState)
	wrong(&module.Module{}, api.ErrRange)
	bodies := map[api.Errno]code.Body{
		api.ErrArg:  body([]api.Type{125}, 11),
		api.ErrForm: body(nil, 1),
		api.ErrLong: body(nil, append(make([]int, 4095), 11)...),
	}
	for e, b := range bodies {
		for e2, other := range bodies {
			m := some()
			m.Funcs[1].Body = other
			wrong(m, e2)
			m.Funcs[0].Body = b
			wrong(m, e)
			m.Datas[0].Mem = 4
			wrong(m, api.ErrRange)
			m.Sigs[0].Params = []api.Type{0}
			wrong(m, api.ErrType)
		}
	}
	for e, do := range map[api.Errno]func(*module.Module){
		api.ErrLong:  func(m *module.Module) { m.Table = 1001 },
		api.ErrType:  func(m *module.Module) { m.Start = 1 },
		api.ErrName:  func(m *module.Module) { m.Imports[1].Name = "a b" },
		api.ErrRange: func(m *module.Module) { m.Elems[0].Funcs[1] = 5 },
	} {
		m := some()
		do(m)
		wrong(m, e)
	}
}

// TestStays is of rule 4: what is handed in stays as it was, and what is answered is new.
func TestStays(t *testing.T) {
	m, want := some(), someLines()
	room := append(m.Elems[0].Funcs, 77)
	m.Elems[0].Funcs = room[:2]
	l, _ := text.Write(m)
	if !same(m, some()) || room[2] != 77 {
		t.Errorf("Write has changed what it was given: %+v", m)
	}
	got, _, _ := text.Read(l)
	again, _, _ := text.Read(l)
	if !slices.Equal(l, want) {
		t.Errorf("Read has changed what it was given: %q", l)
	}
	clear(l)
	if !same(got, some()) {
		t.Errorf("Read keeps what it was given: %+v", got)
	}
	got.Sigs[1].Params[0], got.Imports[0].Sig, got.Funcs[1].Body.Locals[0], got.Funcs[1].Body.L[1].L[0] = 9, 9, 9, 9
	got.Elems[0].Funcs[0], got.Datas[0].Bytes[0], got.Exports[0].Index, got.Globals[0].Value = 9, 9, 9, 9
	if !same(again, some()) {
		t.Errorf("what Read answers shares memory: %+v", again)
	}
}
