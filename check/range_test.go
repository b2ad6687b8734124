package check_test

import (
	"strconv"
	"strings"
	"testing"

	"grommet/api"
	"grommet/module"
	"grommet/op"
)

// dead holds what is told of an instruction behind unreachable, where anything may be taken: OK, or its error.
func dead(t *testing.T, m *module.Module, text string, err api.Errno) {
	t.Helper()
	m.Funcs[looked].Body.L = row("unreachable; " + text + "; unreachable; end")
	if err == api.OK {
		holds(t, m, text)
	} else {
		refused(t, text, m, looked, 1, err)
	}
}

// TestNumbers is of P16.1: numbers of the last thing that there is, and of those that there aren't.
func TestNumbers(t *testing.T) {
	const most = "4294967295"
	for _, c := range []struct{ text, fine, missing string }{
		{"local.get N", "0 1 2 3 4", "5 6 255 " + most},
		{"local.set N", "0 1 2 3 4", "5 6 255 " + most},
		{"local.tee N", "0 1 2 3 4", "5 6 255 " + most},
		{"global.get N", "0 1 2 3 4", "5 6 255 " + most},
		{"global.set N", "1 2 4", "5 6 255 " + most},
		{"call N", "0 1 2 3 4", "5 6 255 " + most},
		{"call_indirect N 0", "0 1 2 3 4 5 6 7", "8 9 255 " + most},
		{"call_indirect 0 N", "0", "1 2 255 " + most},
		{"i32.load N 0 0", "0 1 2 3", "4 5 255 " + most},
		{"i64.store32 N 0 0", "0 1 2 3", "4 5 255 " + most},
		{"memory.size N", "0 1 2 3", "4 5 255 " + most},
		{"memory.grow N", "0 1 2 3", "4 5 255 " + most},
		{"memory.fill N", "0 1 2 3", "4 5 255 " + most},
		{"memory.copy N 0", "0 1 2 3", "4 5 255 " + most},
		{"memory.copy 3 N", "0 1 2 3", "4 5 255 " + most},
		{"br N", "0", "1 2 255 " + most},
		{"br_if N", "0", "1 2 255 " + most},
		{"br_table N", "0", "1 2 255 " + most},
		{"br_table N 0", "0", "1 2 255 " + most},
		{"br_table 0 0 N 0", "0", "1 2 255 " + most},
	} {
		m := with("(i32,i64)->()", "i64 i32 i64", "end")
		for n := range strings.FieldsSeq(c.fine) {
			dead(t, m, strings.ReplaceAll(c.text, "N", n), api.OK)
		}
		for n := range strings.FieldsSeq(c.missing) {
			dead(t, m, strings.ReplaceAll(c.text, "N", n), api.ErrRange)
		}
	}
}

// TestNothing is of P16.1: a module without anything has nothing that numbers could tell of.
func TestNothing(t *testing.T) {
	m := with("()->()", "", "end")
	m.Mems, m.Globals, m.Table, m.Imports, m.Elems = nil, nil, -1, nil, nil
	for _, text := range []string{
		"local.get 0", "local.set 0", "local.tee 0", "global.get 0", "global.set 0", "call 3", "call_indirect 0 0",
		"i32.load 0 0 0", "i64.store8 0 0 0", "memory.size 0", "memory.grow 0", "memory.fill 0", "memory.copy 0 0", "br 1",
	} {
		dead(t, m, text, api.ErrRange)
	}
	dead(t, m, "call 2", api.OK)
	// A table without places is one.
	m.Table = 0
	dead(t, m, "call_indirect 0 0", api.OK)
	dead(t, m, "call_indirect 0 1", api.ErrRange)
	m.Mems = some().Mems[:1]
	dead(t, m, "memory.copy 0 0", api.OK)
	dead(t, m, "memory.copy 1 0", api.ErrRange)
	dead(t, m, "memory.copy 0 1", api.ErrRange)
}

// TestOffsets is of P16.1: an offset is below 2^32, if addresses have 32 bits; any, if they have 64.
func TestOffsets(t *testing.T) {
	m := with("()->()", "", "end")
	for _, name := range []string{"i32.load", "i64.load32_u", "i64.store", "i32.store8"} {
		for _, offset := range []string{"0", "1", "4294967295"} {
			for _, mem := range []string{"0", "1", "2", "3"} {
				dead(t, m, name+" "+mem+" "+offset+" 0", api.OK)
			}
		}
		for _, offset := range []string{"4294967296", "4294967297", "9223372036854775808", "18446744073709551615"} {
			for _, mem := range []string{"0", "2", "4"} {
				dead(t, m, name+" "+mem+" "+offset+" 0", api.ErrRange)
			}
			for _, mem := range []string{"1", "3"} {
				dead(t, m, name+" "+mem+" "+offset+" 0", api.OK)
			}
		}
	}
}

// TestAligns is of P16.1: 2 to the power of an align is no more than the bytes that are moved.
func TestAligns(t *testing.T) {
	m := with("()->()", "", "end")
	most := map[string]int{"8": 0, "16": 1, "32": 2, "i32": 2, "i64": 3}
	n := 0
	for _, x := range op.All() {
		if x.Form != op.Mem {
			continue
		}
		n++
		bits := strings.TrimRight(strings.TrimLeft(x.Name[4:], "loadstre"), "_su")
		if bits == "" {
			bits = x.Name[:3]
		}
		for align := range 32 {
			want := api.OK
			if align > most[bits] {
				want = api.ErrType
			}
			for _, mem := range []string{" 0 0 ", " 1 4294967296 "} {
				dead(t, m, x.Name+mem+strconv.Itoa(align), want)
			}
		}
	}
	if n != 19 {
		t.Errorf("%d loads and stores", n)
	}
}

// TestRangeFirst is of P16.1: of one instruction ErrRange is told ahead of ErrType, of two the first one's error.
func TestRangeFirst(t *testing.T) {
	for _, text := range []string{
		"local.set 2", "local.tee 2", "global.set 5", "call 5", "call_indirect 8 0", "call_indirect 0 1", "i32.load 4 0 0", "i32.load 4 0 31",
		"i32.load 0 4294967296 0", "i32.load 0 4294967296 3", "i64.store 4 0 0", "memory.grow 4", "memory.fill 4", "memory.copy 4 0", "memory.copy 0 4",
		"br 1", "br_if 1", "br_table 1", "br_table 0 1", "br_table 1 0",
	} {
		wrong(t, "(i32)->(i32)", "i64", text+"; end", 0, api.ErrRange)
		wrong(t, "(i32)->(i32)", "i64", "i64.const 1; "+text+"; end", 1, api.ErrRange)
		wrong(t, "(i32)->(i32)", "i64", "drop; "+text+"; end", 0, api.ErrType)
		wrong(t, "(i32)->(i32)", "i64", text+"; drop; end", 0, api.ErrRange)
		wrong(t, "(i32)->(i32)", "i64", "nop; i32.const 1; "+text+"; end", 2, api.ErrRange)
	}
	// Labels of other types, and one that there isn't.
	wrong(t, "()->(i32)", "", "block; i32.const 1; i32.const 1; br_table 0 1 2; end; i32.const 1; end", 3, api.ErrRange)
	wrong(t, "()->(i32)", "", "block; i32.const 1; i32.const 1; br_table 2 0 1; end; i32.const 1; end", 3, api.ErrRange)
	wrong(t, "()->(i32)", "", "block; i32.const 1; i32.const 1; br_table 0 1; end; i32.const 1; end", 3, api.ErrType)
}
