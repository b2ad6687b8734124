package decode_test

import (
	"math"
	"strings"
	"testing"

	"grommet/api"
	"grommet/code"
	"grommet/decode"
	"grommet/flash"
	"grommet/instr"
	"grommet/module"
	"grommet/types"
)

// read holds Bytes, and Decode of a flash of the same bytes.
func read(t *testing.T, s string, want *module.Module, place int, err api.Errno) {
	t.Helper()
	m, at, e := decode.Bytes([]byte(s))
	if !same(m, want) || at != place || e != err {
		t.Errorf("Bytes of %.200x: %+v, %d, %d, not %+v, %d, %d", s, m, at, e, want, place, err)
	}
	f, _ := flash.New([]byte(s))
	m, at, e = decode.Decode(f)
	if !same(m, want) || at != place || e != err {
		t.Errorf("Decode of %.200x: %+v, %d, %d, not %+v, %d, %d", s, m, at, e, want, place, err)
	}
}

// TestDecode is of P14.2: what the chapter lets stand, whether it is fit or not.
func TestDecode(t *testing.T) {
	for s, want := range map[string]*module.Module{
		"": module.Empty(),
		// Sections without things.
		sec(1, "\x00"): module.Empty(),
		sec(1, "\x00") + sec(2, "\x00") + sec(3, "\x00") + sec(4, "\x00") + sec(5, "\x00") + sec(6, "\x00") + sec(7, "\x00") + sec(9, "\x00") + sec(10, "\x00") + sec(11, "\x00"): module.Empty(),
		sec(10, "\x00"):                module.Empty(),
		sec(4, "\x80\x80\x00"):         module.Empty(),
		"\x03\x81\x80\x80\x80\x00\x00": module.Empty(),
		sec(3, "\x80\x80\x80\x80\x00"): module.Empty(),
		// Signatures.
		sec(1, "\x81\x00\x60\x80\x00\x82\x80\x00\x7e\x7f"): with(func(m *module.Module) { m.Sigs = []types.Sig{sig("()->(i64,i32)")} }),
		sec(1, "\x01\x60\x15"+strings.Repeat("\x7f", 21)+"\x80\x01"+strings.Repeat("\x7e", 128)): with(func(m *module.Module) {
			m.Sigs = []types.Sig{{Params: []api.Type(strings.Repeat("\x7f", 21)), Results: []api.Type(strings.Repeat("\x7e", 128))}}
		}),
		sec(1, "\x33"+strings.Repeat("\x60\x00\x00", 51)): with(func(m *module.Module) { m.Sigs = make([]types.Sig, 51) }),
		// Imports.
		sec(2, "\x01\x00\x02\xff \x00\xff\xff\xff\xff\x0f"): with(func(m *module.Module) {
			m.Imports = []module.Import{{Module: "", Name: "\xff ", Sig: math.MaxUint32}}
		}),
		sec(2, "\x01\x81\x00a\x1f"+strings.Repeat("b", 31)+"\x00\x80\x00"): with(func(m *module.Module) {
			m.Imports = []module.Import{{Module: "a", Name: strings.Repeat("b", 31), Sig: 0}}
		}),
		// Functions, and bodies.
		sec(3, "\x02\x05\xff\xff\xff\xff\x0f") + sec(10, "\x02\x02\x00\x0b\x83\x00\x00\x01\x0b"): with(func(m *module.Module) {
			m.Funcs = []module.Func{{Sig: 5, Body: body(nil, 11)}, {Sig: math.MaxUint32, Body: body(nil, 1, 11)}}
		}),
		sec(3, "\x01\x00") + sec(10, "\x01\x09\x03\x01\x7f\x00\x7e\x81\x00\x7f\x0b"): with(func(m *module.Module) {
			m.Funcs = []module.Func{{Body: body([]api.Type{api.I32, api.I32}, 11)}}
		}),
		// A table.
		sec(4, "\x01\x70\x00\xff\xff\xff\xff\x0f"): with(func(m *module.Module) { m.Table = math.MaxUint32 }),
		sec(4, "\x01\x70\x00\x80\x00"):             with(func(m *module.Module) { m.Table = 0 }),
		// Memories.
		sec(5, "\x05\x00\xff\xff\xff\xff\x0f\x01\x05\x04\x01\x80\x80\x80\x80\x08\xff\xff\xff\xff\x0f\x04\x05\x05\x06\x80\x00"): with(func(m *module.Module) {
			m.Mems = []types.Limits{{Min: math.MaxUint32, Max: -1}, {Min: 5, Max: 4}, {Min: 1 << 31, Max: math.MaxUint32}, {Min: 5, Max: -1, Wide: true}, {Min: 6, Max: 0, Wide: true}}
		}),
		sec(5, "\x01\x05\xff\xff\xff\xff\xff\xff\xff\xff\xff\x01\x80\x80\x80\x80\x10"): with(func(m *module.Module) {
			m.Mems = []types.Limits{{Min: 1 << 32, Max: 1 << 32, Wide: true}}
		}),
		sec(5, "\x02\x05\xff\xff\xff\xff\x0f\x81\x80\x80\x80\x10\x04\x80\x80\x80\x80\x80\x80\x80\x80\x80\x01"): with(func(m *module.Module) {
			m.Mems = []types.Limits{{Min: math.MaxUint32, Max: 1 << 32, Wide: true}, {Min: 1 << 32, Max: -1, Wide: true}}
		}),
		// Globals.
		sec(6, "\x02\x7f\x01\x41\x80\x80\x80\x80\x78\x0b\x7e\x00\x42\xff\x00\x0b"): with(func(m *module.Module) {
			m.Globals = []module.Global{{Type: api.I32, Mutable: true, Value: 1 << 31}, {Type: api.I64, Value: 127}}
		}),
		sec(6, "\x02\x7f\x00\x41\xff\x7f\x0b\x7e\x01\x42\x7f\x0b"): with(func(m *module.Module) {
			m.Globals = []module.Global{{Type: api.I32, Value: math.MaxUint32}, {Type: api.I64, Mutable: true, Value: math.MaxUint64}}
		}),
		// Exports.
		sec(7, "\x05\x00\x00\x00\x01a\x01\x05\x01a\x02\x80\x01\x01\x00\x03\x80\x00\x03a b\x00\xff\xff\xff\xff\x0f"): with(func(m *module.Module) {
			m.Exports = []module.Export{{}, {Name: "a", Kind: 1, Index: 5}, {Name: "a", Kind: 2, Index: 128}, {Name: "\x00", Kind: 3}, {Name: "a b", Index: math.MaxUint32}}
		}),
		// Start.
		sec(8, "\x00"):                 with(func(m *module.Module) { m.Start = 0 }),
		sec(8, "\x81\x80\x00"):         with(func(m *module.Module) { m.Start = 1 }),
		sec(8, "\xff\xff\xff\xff\x0f"): with(func(m *module.Module) { m.Start = math.MaxUint32 }),
		// Elements.
		sec(9, "\x02\x00\x41\x7f\x0b\x02\x05\xff\xff\xff\xff\x0f\x00\x41\x80\x00\x0b\x80\x00"): with(func(m *module.Module) {
			m.Elems = []module.Elem{{At: math.MaxUint32, Funcs: []int{5, math.MaxUint32}}, {}}
		}),
		sec(9, "\x01\x00\x41\x00\x0b\x15"+strings.Repeat("\x07", 21)): with(func(m *module.Module) {
			m.Elems = []module.Elem{{Funcs: []int{7, 7, 7, 7, 7, 7, 7, 7, 7, 7, 7, 7, 7, 7, 7, 7, 7, 7, 7, 7, 7}}}
		}),
		// Data.
		sec(11, "\x04\x00\x41\x7f\x0b\x00\x00\x42\x7f\x0b\x01\xff\x02\x00\x41\x01\x0b\x00\x02\xff\xff\xff\xff\x0f\x42\x80\x80\x80\x80\x10\x0b\x82\x00\x00\x01"): with(func(m *module.Module) {
			m.Datas = []module.Data{{At: math.MaxUint32}, {At: math.MaxUint64, Bytes: []byte{255}}, {At: 1}, {Mem: math.MaxUint32, At: 1 << 32, Bytes: []byte{0, 1}}}
		}),
		sec(5, "\x01\x04\x00") + sec(11, "\x01\x00\x41\x7f\x0b\x00"): with(func(m *module.Module) {
			m.Mems, m.Datas = []types.Limits{{Max: -1, Wide: true}}, []module.Data{{At: math.MaxUint32}}
		}),
		sec(11, "\x01\x00\x41\x00\x0b\x81\x20"+strings.Repeat("\x00", 4097)): with(func(m *module.Module) {
			m.Datas = []module.Data{{Bytes: make([]byte, 4097)}}
		}),
	} {
		read(t, head+s, want, 0, api.OK)
	}
}

// TestDecodeLarge is of P14.2: bodies at the edges that chapter 12 names.
func TestDecodeLarge(t *testing.T) {
	one := head + sec(1, "\x01\x60\x00\x00") + sec(3, "\x01\x00")
	of := func(b string) string { return one + sec(10, "\x01"+sec(0, b)[1:]) }
	most := "\x00" + strings.Repeat("\x01", 4094) + "\x0b"
	want := with(func(m *module.Module) {
		m.Sigs, m.Funcs = []types.Sig{{}}, []module.Func{{}}
	})
	want.Funcs[0].Body, _, _ = code.Read([]byte(most))
	read(t, of(most), want, 0, api.OK)
	deep := strings.Repeat("\x02\x40", 64) + strings.Repeat("\x0b", 65)
	want.Funcs[0].Body, _, _ = code.Read([]byte("\x01\x32\x7f" + deep))
	if len(want.Funcs[0].Body.L) != 129 {
		t.Fatal("the body can't be read")
	}
	read(t, of("\x01\x32\x7f"+deep), want, 0, api.OK)
	want.Funcs[0].Body = code.Body{L: []instr.Instr{{Code: 14, L: make([]uint64, 100)}, {Code: 11}}}
	read(t, of("\x00\x0e\x64"+strings.Repeat("\x00", 101)+"\x0b"), want, 0, api.OK)
	place := len(one)
	read(t, of(most+"\x0b"), nil, place, api.ErrLong)
	read(t, of("\x06"+strings.Repeat("\x00", 5000)), nil, place, api.ErrLong)
	read(t, of("\x01\x33\x7f\x0b"), nil, place, api.ErrLong)
	read(t, of("\x00\x02\x40"+deep+"\x0b"), nil, place, api.ErrLong)
	read(t, of("\x00\x0e\x65"+strings.Repeat("\x00", 102)+"\x0b"), nil, place, api.ErrLong)
	// Bytes that aren't there are no body.
	read(t, one+"\x0a\x03\x01\x81\x20", nil, place, api.ErrForm)
	read(t, one+"\x0a\x86\x20\x01\x81\x20"+most, nil, place, api.ErrForm)
}

// TestDecodeWrong is of P14.2: where the first section begins that can't be read; all by ErrForm.
func TestDecodeWrong(t *testing.T) {
	for number, all := range map[byte][]string{
		1: {
			"", "\x01", "\x80", "\x01\x61\x00\x00", "\x01\x60", "\x01\x60\x00", "\x01\x60\x01", "\x01\x60\x01\x7f", "\x01\x60\x01\x00\x00", "\x01\x60\x01\x7d\x00", "\x01\x60\x00\x01\x40",
			"\x01\x60\x00\x02\x7f\x80", "\x01\x60\x02\x7f\x7c\x00", "\x01\x60\x00\x00\x00", "\x02\x60\x00\x00", "\x00\x00", "\x01\xe0\x00\x00\x00", "\x01\x60\x80\x80\x80\x80\x10\x00", "\xff\xff\xff\xff\x0f\x60\x00\x00", "\xff\xff\xff\xff\x1f",
			"\x80\x80\x80\x80\x80\x00", "\x01\x60\xff\xff\xff\xff\x0f\x7f", "\x00\x60\x00\x00", "\x01\x60\x00\x00\x60\x00\x00", "\x01\x60\x80\x80\x80\x80\x80\x00\x00",
		},
		2: {
			"", "\x01", "\x01\x01a", "\x01\x01a\x01b", "\x01\x01a\x01b\x00", "\x01\x01a\x01b\x01\x00", "\x01\x01a\x01b\x02\x00", "\x01\x01a\x01b\x80\x00\x00", "\x01\x02a", "\x01\x01a\x05b\x00\x00",
			"\x01\x01a\x01b\x00\x00\x00", "\x02\x01a\x01b\x00\x00", "\x01\x01a\x01b\x00\x80\x80\x80\x80\x10", "\x01\xff\xff\xff\xff\x0fa\x01b\x00\x00", "\x00\x01a\x01b\x00\x00", "\x01\x81\x80\x80\x80\x80\x00a\x01b\x00\x00",
		},
		3: {"", "\x01", "\x01\x80", "\x02\x00", "\x01\x00\x00", "\x00\x00", "\x01\xff\xff\xff\xff\x1f"},
		4: {
			"", "\x01", "\x01\x70", "\x01\x70\x00", "\x01\x6f\x00\x01", "\x01\x70\x01\x01\x02", "\x01\x70\x01\x01", "\x01\x70\x00\x01\x00", "\x02\x70\x00\x01\x70\x00\x01", "\x02\x70\x00\x01", "\x01\x70\x04\x01",
			"\x00\x70\x00\x01", "\x01\xf0\x00\x00\x01", "\x01\x70\x80\x00\x01", "\x01\x70\x00\x80\x80\x80\x80\x10", "\x02\x70\x00\x00\x70\x00\x00", "\x02\x70\x00\x01\x01",
		},
		5: {
			"", "\x01", "\x01\x00", "\x01\x01\x00", "\x01\x04", "\x01\x05\x01", "\x01\x02\x00", "\x01\x03\x00\x01", "\x01\x06\x00", "\x01\x07\x00\x01", "\x01\x08\x00", "\x01\x80\x00\x00", "\x01\x00\x00\x01", "\x01\x84\x00\x01",
			"\x01\x00\x80\x80\x80\x80\x10", "\x01\x01\x00\x80\x80\x80\x80\x10", "\x01\x04\x80\x80\x80\x80\x80\x80\x80\x80\x80\x02", "\x01\x05\x00\xff\xff\xff\xff\xff\xff\xff\xff\xff\x03", "\x02\x00\x00", "\x00\x00\x00", "\x01\xff\x00",
		},
		6: {
			"", "\x01", "\x01\x7f", "\x01\x7f\x00", "\x01\x7f\x00\x41", "\x01\x7f\x00\x41\x00", "\x01\x7f\x00\x0b", "\x01\x7f\x00\x42\x00\x0b", "\x01\x7e\x00\x41\x00\x0b", "\x01\x7d\x00\x41\x00\x0b", "\x01\x7d\x00\x43\x00\x00\x00\x00\x0b",
			"\x01\x7f\x02\x41\x00\x0b", "\x01\x7f\x80\x00\x41\x00\x0b", "\x01\x7f\x00\x41\x00\x01", "\x01\x7f\x00\x41\x00\x41\x00\x0b", "\x01\x7f\x00\x01\x0b", "\x01\x7f\x00\x43\x00\x00\x00\x00\x0b", "\x01\x7f\x00\xfd\x00\x0b",
			"\x01\x7f\x00\x23\x00\x0b", "\x01\x7f\x00\x41\x80\x80\x80\x80\x08\x0b", "\x01\x7e\x00\x42\x80\x80\x80\x80\x80\x80\x80\x80\x80\x01\x0b", "\x01\x7f\x00\x41\x00\x0b\x0b", "\x01\x7f\x00\x0e\x65" + strings.Repeat("\x00", 102) + "\x0b",
			"\x01\x40\x00\x41\x00\x0b", "\x01\x00\x00\x41\x00\x0b", "\x01\xff\x00\x41\x00\x0b", "\x02\x7f\x00\x41\x00\x0b", "\x00\x7f\x00\x41\x00\x0b", "\x01\x7f\x00\x6a\x0b", "\x01\x41\x00\x41\x00\x0b", "\x01\x7f\x00\x41\x00\x8b\x00", "\x01\x7f\x00\x06\x0b", "\x01\x7f\x00\x00\x0b", "\x01\x00\x00\x00\x0b",
		},
		7: {
			"", "\x01", "\x01\x01a", "\x01\x01a\x00", "\x01\x01a\x04\x00", "\x01\x01a\x80\x00\x00", "\x01\x01a\xff\x00", "\x01\x02a\x00\x00", "\x01\x01a\x00\x00\x00", "\x02\x01a\x00\x00", "\x00\x01a\x00\x00", "\x01\x01a\x03\x80\x80\x80\x80\x10",
		},
		8: {"", "\x80", "\x00\x00", "\x01\x00", "\x00\x0b", "\x80\x80\x80\x80\x10", "\x80\x80\x80\x80\x80\x00"},
		9: {
			"", "\x01", "\x01\x00", "\x01\x00\x41\x00", "\x01\x00\x41\x00\x0b", "\x01\x00\x41\x00\x0b\x01", "\x01\x01\x41\x00\x0b\x00", "\x01\x02\x00\x41\x00\x0b\x00\x00", "\x01\x00\x42\x00\x0b\x00", "\x01\x80\x00\x41\x00\x0b\x00", "\x01\x00\x41\x00\x01\x00",
			"\x01\x00\x43\x00\x00\x00\x00\x0b\x00", "\x01\x00\x41\x00\x0b\x01\x00\x00", "\x01\x00\x41\x00\x0b\x02\x00", "\x02\x00\x41\x00\x0b\x00", "\x00\x00\x41\x00\x0b\x00", "\x01\x00\x41\x80\x80\x80\x80\x08\x0b\x00", "\x01\x00\x41\x00\x0b\x01\x80\x80\x80\x80\x10",
			"\x01\x00\x41\x00\x0b\xff\xff\xff\xff\x0f\x00", "\x01\x00\x0b\x00", "\x01\x00\x00\x0b\x00", "\x01\x00\x41\x00\x00\x0b", "\x01\x00\x41\x00\x0b\x80\x80\x80\x80\x80\x00",
		},
		10: {
			"", "\x01", "\x01\x00", "\x01\x01\x00", "\x01\x02\x00", "\x01\x03\x00\x0b", "\x01\x02\x00\x0b\x0b", "\x01\x03\x00\x0b\x0b", "\x01\x02\x00\x06", "\x01\x02\x00\x01", "\x01\x03\x00\x05\x0b", "\x02\x02\x00\x0b", "\x00\x02\x00\x0b", "\x01\x04\x01\x01\x7d\x0b",
			"\x01\x02\x00\x41", "\x01\x01\x80", "\x01\x03\x00\x02\x0b", "\x01\x04\x00\x41\x80\x0b", "\x02\x02\x00\x0b\x02\x00\x01", "\x01\x80\x80\x80\x80\x10\x00\x0b", "\x01\xff\xff\xff\xff\x0f\x00\x0b", "\x01\x04\x00\x0b\xfd\x0b", "\x01\x82\x80\x80\x80\x80\x00\x00\x0b",
		},
		11: {
			"", "\x01", "\x01\x00", "\x01\x00\x41\x00", "\x01\x00\x41\x00\x0b", "\x01\x00\x41\x00\x0b\x01", "\x01\x01\x00", "\x01\x01\x41\x00\x0b\x00", "\x01\x03\x00\x41\x00\x0b\x00", "\x01\x82\x00\x00\x41\x00\x0b\x00", "\x01\x02\x41\x00\x0b\x00", "\x01\x02\x80\x80\x80\x80\x10\x41\x00\x0b\x00",
			"\x01\x00\x41\x00\x0b\x00\x00", "\x01\x00\x41\x00\x0b\x02\x00", "\x02\x00\x41\x00\x0b\x00", "\x00\x00\x41\x00\x0b\x00", "\x01\x00\x43\x00\x00\x00\x00\x0b\x00", "\x01\x00\x23\x00\x0b\x00", "\x01\x00\x41\x00\x41\x00\x0b\x00", "\x01\x00\x41\x00\x01\x00",
			"\x01\x00\x41\x80\x80\x80\x80\x08\x0b\x00", "\x01\x00\x42\x80\x80\x80\x80\x80\x80\x80\x80\x80\x01\x0b\x00", "\x01\x00\x41\x00\x0b\xff\xff\xff\xff\x0f\x00", "\x01\x00\x0b\x00", "\x01\x80\x00\x41\x00\x0b\x00", "\x01\x00\x41\x00\x0b\x80\x80\x80\x80\x80\x00",
		},
	} {
		for _, s := range all {
			read(t, head+sec(number, s), nil, 8, api.ErrForm)
			read(t, head+sec(0, "abc")+sec(number, s)+sec(0, ""), nil, 13, api.ErrForm)
			ahead := head + strings.Join(someSections()[:number-1], "")
			read(t, ahead+sec(number, s)+strings.Join(someSections()[number:], ""), nil, len(ahead), api.ErrForm)
		}
	}
}

// TestDecodeHead is of P14.2: the first eight bytes.
func TestDecodeHead(t *testing.T) {
	for n := range 8 {
		read(t, head[:n], nil, 0, api.ErrForm)
		read(t, head[:n]+head[n+1:], nil, 0, api.ErrForm)
		for c := range 256 {
			if byte(c) != head[n] {
				read(t, head[:n]+string([]byte{byte(c)})+head[n+1:], nil, 0, api.ErrForm)
			}
		}
	}
	read(t, head[:7]+sec(1, "\x00"), nil, 0, api.ErrForm)
	read(t, head+head, nil, 8, api.ErrForm)
	if m, at, e := decode.Bytes(nil); m != nil || at != 0 || e != api.ErrForm {
		t.Errorf("Bytes of nil: %d, %d", at, e)
	}
	if m, at, e := decode.Decode(nil); m != nil || at != 0 || e != api.ErrState {
		t.Errorf("Decode of nil: %d, %d", at, e)
	}
}

// TestDecodeSections is of P14.2: numbers that don't rise, or that there aren't, and sections that end too early.
func TestDecodeSections(t *testing.T) {
	l := someSections()
	all := head + strings.Join(l, "")
	at := len(head)
	for i, s := range l {
		ahead, rest := all[:at], all[at+len(s):]
		// Once more, at each later place.
		later := at + len(s)
		for j := i + 1; j <= len(l); j++ {
			read(t, all[:later]+s+all[later:], nil, later, api.ErrForm)
			read(t, all[:later]+sec(0, "x")+s+all[later:], nil, later+3, api.ErrForm)
			if j < len(l) {
				later += len(l[j])
			}
		}
		// All that isn't whole.
		for n := 1; n < len(s); n++ {
			read(t, ahead+s[:n], nil, at, api.ErrForm)
		}
		// The size is of another number of bytes.
		for n := range 8 {
			if n+1 != len(s)-2 && i != 7 {
				read(t, ahead+s[:1]+string([]byte{byte(n + 1)})+s[2:]+rest, nil, at, api.ErrForm)
			}
		}
		read(t, ahead+s[:1]+string([]byte{s[1] + 1})+s[2:], nil, at, api.ErrForm)
		read(t, ahead+s[:1]+"\xff\xff\xff\xff\x0f"+s[2:]+rest, nil, at, api.ErrForm)
		read(t, ahead+s[:1]+"\xff\xff\xff\xff\x1f"+s[2:]+rest, nil, at, api.ErrForm)
		// Its size has needless bytes, as many as may be, and one more.
		size := s[:1] + string([]byte{s[1] | 128}) + "\x80\x80\x80"
		read(t, ahead+size+"\x00"+s[2:]+rest, some(), 0, api.OK)
		read(t, ahead+size+"\x80\x00"+s[2:]+rest, nil, at, api.ErrForm)
		// Numbers of which there are none.
		for c := 12; c < 256; c++ {
			read(t, ahead+sec(byte(c), "\x00")+s+rest, nil, at, api.ErrForm)
		}
		read(t, ahead+string([]byte{s[0] | 128})+"\x00"+s[1:]+rest, nil, at, api.ErrForm)
		at += len(s)
	}
	read(t, all, some(), 0, api.OK)
	read(t, head+sec(3, "\x00")+sec(2, "\x00"), nil, 11, api.ErrForm)
	read(t, head+sec(11, "\x00")+sec(10, "\x00"), nil, 11, api.ErrForm)
	read(t, head+sec(2, "\x00")+sec(2, "\x00"), nil, 11, api.ErrForm)
}

// TestDecodeUnlike is of P14.2: bodies and functions unlike in number are told at the end, behind all else.
func TestDecodeUnlike(t *testing.T) {
	one, two := "\x01\x02\x00\x0b", "\x02\x02\x00\x0b\x02\x00\x0b"
	for _, s := range []string{
		sec(3, "\x01\x00"),
		sec(3, "\x01\x00") + sec(10, "\x00"),
		sec(3, "\x02\x00\x00") + sec(10, one),
		sec(3, "\x01\x00") + sec(10, two),
		sec(3, "\x00") + sec(10, one),
		sec(10, one),
		sec(10, two),
	} {
		read(t, head+s, nil, 8+len(s), api.ErrForm)
		read(t, head+s+sec(0, "abc"), nil, 13+len(s), api.ErrForm)
		read(t, head+s+sec(11, "\x00"), nil, 11+len(s), api.ErrForm)
		read(t, head+s+sec(11, "\x01"), nil, 8+len(s), api.ErrForm)
		read(t, head+s+sec(11, "\x01")+"\x00", nil, 8+len(s), api.ErrForm)
		read(t, head+s+sec(0, "")+"\x01", nil, 10+len(s), api.ErrForm)
	}
}

// TestDecodeBodies is of P14.2: the first thing that can't be read tells the error; only a body tells ErrProfile and ErrLong.
func TestDecodeBodies(t *testing.T) {
	fine, form, foreign, deep := "\x02\x00\x0b", "\x02\x00\x06", "\x04\x00\xfd\x00\x0b", "\x04\x01\x33\x7f\x0b"
	for _, c := range []struct {
		s string
		e api.Errno
	}{
		{"\x01" + foreign, api.ErrProfile},
		{"\x01\x07\x00\x43\x00\x00\x00\x00\x0b", api.ErrProfile},
		{"\x01\x05\x00\xfc\x00\x0b\x0b", api.ErrProfile},
		{"\x01\x02\x00\x43", api.ErrProfile},
		{"\x01\x03\x00\x0b\x43", api.ErrForm},
		{"\x01\x03\x00\x06\x43", api.ErrForm},
		{"\x01\x05\x01\x01\x7d\x0b\x0b", api.ErrForm},
		{"\x01" + deep, api.ErrLong},
		{"\x02" + fine + foreign, api.ErrProfile},
		{"\x02" + fine + deep, api.ErrLong},
		{"\x03" + fine + fine + form, api.ErrForm},
		{"\x02" + foreign + deep, api.ErrProfile},
		{"\x02" + deep + foreign, api.ErrLong},
		{"\x02" + form + foreign, api.ErrForm},
		{"\x02" + foreign + form, api.ErrProfile},
		{"\x01" + foreign + "\x00", api.ErrProfile},
		{"\x02" + deep, api.ErrLong},
		{"\x01" + fine + foreign, api.ErrForm},
		{"\x01\x05\x00\xfd\x00\x0b", api.ErrForm},
	} {
		read(t, head+sec(10, c.s), nil, 8, c.e)
		read(t, head+sec(10, c.s)+sec(0, ""), nil, 8, c.e)
		read(t, head+sec(10, c.s)+"\x0c\x00", nil, 8, c.e)
		read(t, head+sec(1, "\x00")+sec(10, c.s)+sec(11, "\x05"), nil, 11, c.e)
		read(t, head+sec(11, "\x00")+sec(10, c.s), nil, 11, api.ErrForm)
		read(t, head+sec(10, "\x00")+sec(10, c.s), nil, 11, api.ErrForm)
		read(t, head+sec(0, c.s)+sec(9, "\x00"), module.Empty(), 0, api.OK)
	}
}

// TestFaults is of P14.2: a fault at each read, told of the section that is read then.
func TestFaults(t *testing.T) {
	l := append(someSections(), sec(0, "abc"))
	all := head + strings.Join(l, "")
	reads := func(s string) int {
		f, _ := flash.New([]byte(s))
		decode.Decode(f)
		return f.Reads()
	}
	from, at, last := 0, 0, 0
	for i, s := range append([]string{head}, l...) {
		last = at
		at += len(s)
		to := reads(all[:at])
		if to <= from {
			t.Errorf("part %d isn't read", i)
		}
		for ; from < to; from++ {
			f, _ := flash.New([]byte(all))
			f.FailAt(from)
			if m, at, e := decode.Decode(f); m != nil || at != last || e != api.ErrFault {
				t.Errorf("a fault at read %d: %d, %d, not %d", from, at, e, last)
			}
			f.FailAt(-1)
			if m, at, e := decode.Decode(f); !same(m, some()) || at != 0 || e != api.OK {
				t.Errorf("behind a fault at read %d: %d, %d", from, at, e)
			}
		}
	}
	f, _ := flash.New([]byte(all))
	f.FailAt(from)
	if m, at, e := decode.Decode(f); !same(m, some()) || at != 0 || e != api.OK {
		t.Errorf("a fault behind all reads: %d, %d", at, e)
	}
	if m, at, e := decode.Decode(f); m != nil || at != 0 || e != api.ErrFault {
		t.Errorf("a fault at the first read: %d, %d", at, e)
	}
}

// TestFaultsWrong is of P14.2: what is wrong ahead of a fault is told, whatever comes behind.
func TestFaultsWrong(t *testing.T) {
	for _, s := range []string{"\x00asn\x01\x00\x00\x00", head + "\x0c\x00", head + sec(1, "\x00") + sec(1, "\x00"), head + sec(3, "\x01\x00"), head + sec(10, "\x01\x04\x00\xfd\x00\x0b"), head + sec(10, "\x01\x02\x00\x06")} {
		f, _ := flash.New([]byte(s))
		_, place, err := decode.Decode(f)
		n := f.Reads()
		f, _ = flash.New([]byte(s))
		f.FailAt(n)
		if _, at, e := decode.Decode(f); at != place || e != err || err == api.ErrFault {
			t.Errorf("a fault behind what is wrong in %x: %d, %d, not %d, %d", s, at, e, place, err)
		}
		f, _ = flash.New([]byte(s))
		f.FailAt(n - 1)
		if m, _, e := decode.Decode(f); m != nil || e != api.ErrFault {
			t.Errorf("a fault ahead of what is wrong in %x: %d", s, e)
		}
	}
}

// TestOthers is of P14.3: sections of number 0 change nothing, wherever they stand.
func TestOthers(t *testing.T) {
	l := someSections()
	others := []string{sec(0, ""), sec(0, "abc"), sec(0, "\x01\x00"), "\x00\x80\x80\x00", sec(0, strings.Repeat("\xff", 300)), sec(0, "\x05x") + sec(0, "\x00")}
	for i := range len(l) + 1 {
		for _, s := range others {
			read(t, head+strings.Join(l[:i], "")+s+strings.Join(l[i:], ""), some(), 0, api.OK)
		}
		ahead := head + strings.Join(l[:i], "")
		for _, s := range []string{"\x00", "\x00\x80", "\x00\x01", "\x00\xff\xff\xff\xff\x0f", "\x00\xff\xff\xff\xff\x1f", "\x80\x00"} {
			read(t, ahead+s, nil, len(ahead), api.ErrForm)
		}
	}
	all := head
	for _, s := range l {
		all += strings.Join(others, "") + s
	}
	read(t, all, some(), 0, api.OK)
	read(t, head+strings.Repeat("\x00\x00", (api.MaxModule-8)/2), module.Empty(), 0, api.OK)
}
