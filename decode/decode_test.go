package decode_test

import (
	"math"
	"reflect"
	"strings"
	"testing"

	"grommet/api"
	"grommet/code"
	"grommet/decode"
	"grommet/instr"
	"grommet/leb"
	"grommet/module"
	"grommet/types"
)

const head = "\x00asm\x01\x00\x00\x00"

// sec is a section's bytes.
func sec(number byte, s string) string {
	return string(leb.Put([]byte{number}, uint64(len(s)))) + s
}

// sig is the signature of a text.
func sig(s string) types.Sig {
	x, e := types.ParseSig(s)
	if e != api.OK {
		panic(s)
	}
	return x
}

// body is one of locals and codes.
func body(locals []api.Type, codes ...int) code.Body {
	b := code.Body{Locals: locals}
	for _, c := range codes {
		b.L = append(b.L, instr.Instr{Code: c})
	}
	return b
}

// some is a module that is fit, with some of all; each call makes a new one.
func some() *module.Module {
	return &module.Module{
		Sigs:    []types.Sig{sig("()->()"), sig("(i32,i64)->(i64)"), sig("()->(i32)")},
		Imports: []module.Import{{Module: "env", Name: "put", Sig: 0}, {Module: "e", Name: "get!", Sig: 1}},
		Funcs: []module.Func{
			{Sig: 0, Body: body(nil, 1, 11)},
			{Sig: 2, Body: code.Body{Locals: []api.Type{api.I32, api.I64}, L: []instr.Instr{{Code: 65, A: 7}, {Code: 11}}}},
		},
		Table:   5,
		Mems:    []types.Limits{{Min: 1, Max: 2}, {Min: 0, Max: -1, Wide: true}, {Min: 3, Max: -1}, {Min: 200, Max: 65536, Wide: true}},
		Globals: []module.Global{{Type: api.I32, Value: math.MaxUint32}, {Type: api.I64, Mutable: true, Value: 64}},
		Exports: []module.Export{
			{Name: "f", Kind: module.KindFunc, Index: 3}, {Name: "t", Kind: module.KindTable, Index: 0},
			{Name: "m~", Kind: module.KindMem, Index: 1}, {Name: "g", Kind: module.KindGlobal, Index: 1},
		},
		Start: 2,
		Elems: []module.Elem{{At: 3, Funcs: []int{0, 3}}, {At: math.MaxUint32}},
		Datas: []module.Data{{Mem: 0, At: math.MaxUint32, Bytes: []byte{1, 2}}, {Mem: 1, At: 1 << 32}, {Mem: 3, At: math.MaxUint64, Bytes: []byte{0}}, {Mem: 2, At: 64, Bytes: []byte{9}}},
	}
}

// someSections are the sections of its bytes.
func someSections() []string {
	return []string{
		sec(1, "\x03\x60\x00\x00\x60\x02\x7f\x7e\x01\x7e\x60\x00\x01\x7f"),
		sec(2, "\x02\x03env\x03put\x00\x00\x01e\x04get!\x00\x01"),
		sec(3, "\x02\x00\x02"),
		sec(4, "\x01\x70\x00\x05"),
		sec(5, "\x04\x01\x01\x02\x04\x00\x00\x03\x05\xc8\x01\x80\x80\x04"),
		sec(6, "\x02\x7f\x00\x41\x7f\x0b\x7e\x01\x42\xc0\x00\x0b"),
		sec(7, "\x04\x01f\x00\x03\x01t\x01\x00\x02m~\x02\x01\x01g\x03\x01"),
		sec(8, "\x02"),
		sec(9, "\x02\x00\x41\x03\x0b\x02\x00\x03\x00\x41\x7f\x0b\x00"),
		sec(10, "\x02\x03\x00\x01\x0b\x08\x02\x01\x7f\x01\x7e\x41\x07\x0b"),
		sec(11, "\x04\x00\x41\x7f\x0b\x02\x01\x02\x02\x01\x42\x80\x80\x80\x80\x10\x0b\x00\x02\x03\x42\x7f\x0b\x01\x00\x02\x02\x41\xc0\x00\x0b\x01\x09"),
	}
}

// same tells whether two modules have the same parts; it leans on nothing of the project.
func same(a, b *module.Module) bool {
	return reflect.DeepEqual(plain(a), plain(b))
}

// plain is a module whose lists without elements are none.
func plain(m *module.Module) *module.Module {
	if m == nil {
		return nil
	}
	x := *m
	x.Sigs = list(m.Sigs, func(s types.Sig) types.Sig {
		return types.Sig{Params: list(s.Params, keep), Results: list(s.Results, keep)}
	})
	x.Imports, x.Mems = list(m.Imports, keep), list(m.Mems, keep)
	x.Globals, x.Exports = list(m.Globals, keep), list(m.Exports, keep)
	x.Funcs = list(m.Funcs, func(f module.Func) module.Func {
		l := list(f.Body.L, func(i instr.Instr) instr.Instr { i.L = list(i.L, keep); return i })
		return module.Func{Sig: f.Sig, Body: code.Body{Locals: list(f.Body.Locals, keep), L: l}}
	})
	x.Elems = list(m.Elems, func(e module.Elem) module.Elem { e.Funcs = list(e.Funcs, keep); return e })
	x.Datas = list(m.Datas, func(d module.Data) module.Data { d.Bytes = list(d.Bytes, keep); return d })
	return &x
}

func keep[T any](x T) T { return x }

// list is new, and none without elements.
func list[T any](l []T, do func(T) T) []T {
	var out []T
	for _, x := range l {
		out = append(out, do(x))
	}
	return out
}

// with is an empty module that was changed.
func with(do func(*module.Module)) *module.Module {
	m := module.Empty()
	do(m)
	return m
}

// encoded holds Encode, and reads what it told.
func encoded(t *testing.T, m *module.Module, want string) {
	t.Helper()
	b, e := decode.Encode(m)
	if string(b) != want || e != api.OK {
		t.Errorf("Encode of %+v: %.200x, %d, not %.200x", m, b, e, want)
	}
	if got, at, e := decode.Bytes([]byte(want)); !same(got, m) || at != 0 || e != api.OK {
		t.Errorf("Bytes of %.200x: %+v, %d, %d, not %+v", want, got, at, e, m)
	}
}

// TestEncode is of P14.1: sections that have things alone, in their order, by the fewest bytes.
func TestEncode(t *testing.T) {
	encoded(t, module.Empty(), head)
	encoded(t, some(), head+strings.Join(someSections(), ""))
	for want, m := range map[string]*module.Module{
		sec(1, "\x01\x60\x00\x00"):                                             with(func(m *module.Module) { m.Sigs = []types.Sig{{}} }),
		sec(1, "\x01\x60\x01\x7e\x02\x7f\x7e"):                                 with(func(m *module.Module) { m.Sigs = []types.Sig{sig("(i64)->(i32,i64)")} }),
		sec(4, "\x01\x70\x00\x00"):                                             with(func(m *module.Module) { m.Table = 0 }),
		sec(4, "\x01\x70\x00\xe8\x07"):                                         with(func(m *module.Module) { m.Table = 1000 }),
		sec(5, "\x01\x00\x00"):                                                 with(func(m *module.Module) { m.Mems = []types.Limits{{Max: -1}} }),
		sec(5, "\x01\x01\x00\x00"):                                             with(func(m *module.Module) { m.Mems = []types.Limits{{}} }),
		sec(5, "\x01\x04\x80\x80\x04"):                                         with(func(m *module.Module) { m.Mems = []types.Limits{{Min: 65536, Max: -1, Wide: true}} }),
		sec(5, "\x01\x05\x7f\x80\x01"):                                         with(func(m *module.Module) { m.Mems = []types.Limits{{Min: 127, Max: 128, Wide: true}} }),
		sec(6, "\x01\x7f\x01\x41\x00\x0b"):                                     with(func(m *module.Module) { m.Globals = []module.Global{{Type: api.I32, Mutable: true}} }),
		sec(6, "\x01\x7e\x00\x42\x80\x80\x80\x80\x80\x80\x80\x80\x80\x7f\x0b"): with(func(m *module.Module) { m.Globals = []module.Global{{Type: api.I64, Value: 1 << 63}} }),
		sec(6, "\x01\x7e\x00\x42\xff\xff\xff\xff\x0f\x0b"):                     with(func(m *module.Module) { m.Globals = []module.Global{{Type: api.I64, Value: math.MaxUint32}} }),
		sec(6, "\x01\x7f\x00\x41\x80\x80\x80\x80\x78\x0b"):                     with(func(m *module.Module) { m.Globals = []module.Global{{Type: api.I32, Value: 1 << 31}} }),
		sec(6, "\x01\x7f\x00\x41\xff\xff\xff\xff\x07\x0b"):                     with(func(m *module.Module) { m.Globals = []module.Global{{Type: api.I32, Value: 1<<31 - 1}} }),
		sec(4, "\x01\x70\x00\x00") + sec(9, "\x01\x00\x41\x00\x0b\x00"):        with(func(m *module.Module) { m.Table, m.Elems = 0, []module.Elem{{}} }),
		sec(5, "\x01\x00\x00") + sec(11, "\x01\x00\x41\x00\x0b\x00"): with(func(m *module.Module) {
			m.Mems, m.Datas = []types.Limits{{Max: -1}}, []module.Data{{}}
		}),
		sec(5, "\x01\x04\x00") + sec(11, "\x01\x00\x42\xff\xff\xff\xff\x0f\x0b\x00"): with(func(m *module.Module) {
			m.Mems, m.Datas = []types.Limits{{Max: -1, Wide: true}}, []module.Data{{At: math.MaxUint32}}
		}),
		sec(1, "\x01\x60\x00\x00") + sec(3, "\x01\x00") + sec(8, "\x00") + sec(10, "\x01\x02\x00\x0b"): with(func(m *module.Module) {
			m.Sigs, m.Funcs, m.Start = []types.Sig{{}}, []module.Func{{Body: body(nil, 11)}}, 0
		}),
	} {
		encoded(t, m, head+want)
	}
}

// TestEncodeNumbers is of P14.1: numbers of more than a byte.
func TestEncodeNumbers(t *testing.T) {
	m := with(func(m *module.Module) {
		m.Sigs, m.Table = []types.Sig{{}}, 1000
		for range 100 {
			m.Funcs = append(m.Funcs, module.Func{Body: body(nil, 11)})
		}
		m.Elems = []module.Elem{{At: 300, Funcs: []int{99, 64, 0}}}
		m.Mems = []types.Limits{{Max: -1}}
		m.Datas = []module.Data{{Bytes: []byte(strings.Repeat("q", 4096))}}
		m.Exports = []module.Export{{Name: strings.Repeat("~", 30), Index: 99}}
		m.Start = 99
	})
	encoded(t, m, head+sec(1, "\x01\x60\x00\x00")+sec(3, "\x64"+strings.Repeat("\x00", 100))+sec(4, "\x01\x70\x00\xe8\x07")+sec(5, "\x01\x00\x00")+
		sec(7, "\x01\x1e"+strings.Repeat("~", 30)+"\x00\x63")+sec(8, "\x63")+sec(9, "\x01\x00\x41\xac\x02\x0b\x03\x63\x40\x00")+
		"\x0a\xad\x02\x64"+strings.Repeat("\x02\x00\x0b", 100)+"\x0b\x87\x20\x01\x00\x41\x00\x0b\x80\x20"+strings.Repeat("q", 4096))
	m.Mems[0].Max = -7
	if b, e := decode.Encode(m); e != api.OK || !strings.Contains(string(b), sec(5, "\x01\x00\x00")) {
		t.Errorf("Encode of another number below 0: %d", e)
	}
}

// TestEncodeWords is of P14.1: words around all powers of 2, as numbers with a sign.
func TestEncodeWords(t *testing.T) {
	for k := range 64 {
		for _, a := range []uint64{1 << k, 1<<k - 1, 1<<k + 1, -(1 << k), -(1 << k) - 1} {
			low := a & math.MaxUint32
			narrow := "\x41" + string(leb.PutSigned(nil, int64(int32(low)))) + "\x0b"
			wide := "\x42" + string(leb.PutSigned(nil, int64(a))) + "\x0b"
			m := with(func(m *module.Module) {
				m.Table, m.Mems = 0, []types.Limits{{Max: -1}, {Max: -1, Wide: true}}
				m.Globals = []module.Global{{Type: api.I32, Value: low}, {Type: api.I64, Value: a}}
				m.Elems = []module.Elem{{At: low}}
				m.Datas = []module.Data{{Mem: 1, At: a}, {Mem: 0, At: low}}
			})
			encoded(t, m, head+sec(4, "\x01\x70\x00\x00")+sec(5, "\x02\x00\x00\x04\x00")+sec(6, "\x02\x7f\x00"+narrow+"\x7e\x00"+wide)+
				sec(9, "\x01\x00"+narrow+"\x00")+sec(11, "\x02\x02\x01"+wide+"\x00\x00"+narrow+"\x00"))
		}
	}
}

// long is a module of so many bytes.
func long(t *testing.T, n int) *module.Module {
	t.Helper()
	m := with(func(m *module.Module) {
		m.Mems = []types.Limits{{Max: -1}}
		for range 15 {
			m.Datas = append(m.Datas, module.Data{Bytes: make([]byte, 4096)})
		}
	})
	b, e := decode.Encode(m)
	if e != api.OK {
		t.Fatalf("Encode of 15 data: %d", e)
	}
	m.Datas = append(m.Datas, module.Data{Bytes: make([]byte, n-len(b)-6)})
	return m
}

// TestEncodeLong is of P14.1: as many bytes as may be, and more.
func TestEncodeLong(t *testing.T) {
	most := long(t, api.MaxModule)
	b, e := decode.Encode(most)
	if len(b) != api.MaxModule || e != api.OK {
		t.Fatalf("Encode of the most: %d, %d", len(b), e)
	}
	if m, at, e := decode.Bytes(b); !same(m, most) || at != 0 || e != api.OK {
		t.Errorf("Bytes of the most: %d, %d", at, e)
	}
	if m, at, e := decode.Bytes(append(b, 0)); m != nil || at != 0 || e != api.ErrLong {
		t.Errorf("Bytes of one more: %d, %d", at, e)
	}
	if m, at, e := decode.Bytes(make([]byte, 1<<20)); m != nil || at != 0 || e != api.ErrLong {
		t.Errorf("Bytes of many more: %d, %d", at, e)
	}
	if b, e := decode.Encode(long(t, api.MaxModule+1)); b != nil || e != api.ErrLong {
		t.Errorf("Encode of one more: %d, %d", len(b), e)
	}
	m := with(func(m *module.Module) {
		m.Sigs = []types.Sig{{}}
		for range 100 {
			m.Funcs = append(m.Funcs, module.Func{Body: body(nil, append(make([]int, 4094), 11)...)})
		}
	})
	if b, e := decode.Encode(m); b != nil || e != api.ErrLong {
		t.Errorf("Encode of long bodies: %d, %d", len(b), e)
	}
}

// TestEncodeWrong is of P14.1: Fit's errors ahead of those of bodies, these, in order, ahead of the length's.
func TestEncodeWrong(t *testing.T) {
	bodies := map[api.Errno]code.Body{
		api.ErrArg:  body([]api.Type{125}, 11),
		api.ErrForm: body(nil, 1),
		api.ErrLong: body(nil, append(make([]int, 4095), 11)...),
	}
	for e, b := range bodies {
		for e2, other := range bodies {
			m := some()
			m.Funcs[0].Body = b
			wrong(t, m, e)
			m.Funcs[1].Body = other
			wrong(t, m, e)
			m.Datas = append(m.Datas, module.Data{Mem: 4})
			wrong(t, m, api.ErrRange)
			m = some()
			m.Funcs[1].Body = other
			wrong(t, m, e2)
		}
		m := long(t, api.MaxModule+1)
		m.Sigs, m.Funcs = []types.Sig{{}}, []module.Func{{Body: b}}
		wrong(t, m, e)
		m.Start = 1
		wrong(t, m, api.ErrRange)
	}
	wrong(t, nil, api.ErrState)
	wrong(t, &module.Module{}, api.ErrRange)
	for e, do := range map[api.Errno]func(*module.Module){
		api.ErrLong:  func(m *module.Module) { m.Table = 1001 },
		api.ErrType:  func(m *module.Module) { m.Sigs[1].Params[0] = 125 },
		api.ErrName:  func(m *module.Module) { m.Exports[1].Name = "f" },
		api.ErrRange: func(m *module.Module) { m.Elems[0].At = 1 << 32 },
	} {
		m := some()
		do(m)
		wrong(t, m, e)
	}
}

// wrong holds Encode of what has no bytes.
func wrong(t *testing.T, m *module.Module, want api.Errno) {
	t.Helper()
	if b, e := decode.Encode(m); b != nil || e != want {
		t.Errorf("Encode: %.40x, %d, not %d", b, e, want)
	}
}

// TestStays is of rule 4: what is handed in stays as it was, and isn't kept; what is answered is new.
func TestStays(t *testing.T) {
	m := some()
	room := append(m.Datas[0].Bytes, 77)
	m.Datas[0].Bytes = room[:2]
	b, _ := decode.Encode(m)
	if !same(m, some()) || room[2] != 77 {
		t.Errorf("Encode has changed what it was given: %+v", m)
	}
	in := []byte(string(b))
	got, _, _ := decode.Bytes(in)
	again, _, _ := decode.Bytes(in)
	if string(in) != string(b) {
		t.Errorf("Bytes has changed what it was given: %x", in)
	}
	clear(in)
	clear(b)
	if !same(got, some()) {
		t.Errorf("Bytes keeps what it was given: %+v", got)
	}
	got.Sigs[1].Params[0], got.Sigs[0] = 1, types.Sig{}
	got.Funcs[0].Body.L[0].Code, got.Funcs[1].Body.Locals[0] = 9, 9
	got.Elems[0].Funcs[0], got.Datas[0].Bytes[0], got.Exports[0].Index = 9, 9, 9
	if !same(again, some()) {
		t.Errorf("what Bytes answers shares memory: %+v", again)
	}
}
