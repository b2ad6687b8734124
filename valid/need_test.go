package valid_test

import (
	"math"
	"slices"
	"strconv"
	"strings"
	"testing"

	"grommet/api"
	"grommet/check"
	"grommet/decode"
	"grommet/instr"
	"grommet/module"
	"grommet/valid"
)

// row is the instructions of texts, with ; between.
func row(s string) []instr.Instr {
	var l []instr.Instr
	for part := range strings.SplitSeq(s, ";") {
		x, e := instr.Parse(strings.TrimSpace(part))
		if e != api.OK {
			panic(s + ": " + part)
		}
		l = append(l, x)
	}
	return l
}

// words are numbers, with blanks between.
func words(l ...int) string {
	var s []string
	for _, n := range l {
		s = append(s, strconv.Itoa(n))
	}
	return strings.Join(s, " ")
}

// others are numbers of no own function, of four.
var others = []int{-1, 4, 5, 6, 99, math.MaxInt, math.MaxInt - 1, math.MinInt}

// TestNeed is of P17.2: locals, parameters among them, how high the stack gets, and results.
func TestNeed(t *testing.T) {
	m := some(t)
	for f, want := range []int{0, 3 + 2 + 2, 0 + 2 + 1, 0} {
		if n := valid.Need(m, f); n != want {
			t.Errorf("Need of %d: %d, not %d", f, n, want)
		}
	}
	for _, f := range others {
		if n := valid.Need(m, f); n != 0 {
			t.Errorf("Need of %d: %d", f, n)
		}
	}
	for _, c := range []struct {
		lines string
		want  int
	}{
		{"sig ()->(); func 0; end", 0},
		{"sig (i32,i64)->(); func 0; end", 2},
		{"sig (i32,i64)->(); func 0; locals i32 i32 i64; end", 5},
		{"sig ()->(); func 0; i32.const 1; i64.const 2; i64.const 3; drop; drop; drop; end", 3},
		{"sig ()->(i32); func 0; unreachable; end", 1},
		{"sig ()->(i32,i64); func 0; i32.const 1; i64.const 1; end", 4},
		{"sig ()->(i32,i64); func 0; i32.const 1; i64.const 1; return; end", 4},
		{"sig (i32)->(i32); func 0; locals i64; local.get 0; local.get 0; local.get 0; select; end", 2 + 3 + 1},
		{"sig (i32)->(i32); func 0; local.get 0; if; local.get 0; local.get 0; br 1; end; i32.const 1; end", 1 + 2 + 1},
	} {
		if n := valid.Need(lines(t, c.lines), 0); n != c.want {
			t.Errorf("Need of %q: %d, not %d", c.lines, n, c.want)
		}
	}
}

// TestNeedOwn is of P17.2: numbers are those of own functions; signatures are theirs, whatever the imports' are.
func TestNeedOwn(t *testing.T) {
	const sigs = "sig (i32)->(i32,i32,i32,i32,i32); sig ()->(i64); "
	m := lines(t, sigs+"import a b 0; import a c 0; import a d 0; func 1; i64.const 1; end; func 0; unreachable; end")
	for f, want := range []int{2, 6, 0, 0, 0} {
		if n := valid.Need(m, f); n != want {
			t.Errorf("Need of %d: %d, not %d", f, n, want)
		}
	}
	m.Imports = nil
	for f, want := range []int{2, 6, 0} {
		if n := valid.Need(m, f); n != want {
			t.Errorf("Need of %d, without imports: %d, not %d", f, n, want)
		}
	}
}

// TestNeedMost is of P17.2: as much as there may be of all.
func TestNeedMost(t *testing.T) {
	many := strings.Repeat("i64,", 19) + "i64"
	m := lines(t, "sig ("+many+")->("+many+"); sig ()->("+many+"); func 0; locals"+strings.Repeat(" i32", 50)+"; "+strings.Repeat("call 1; ", 2000)+"unreachable; end; func 1; unreachable; end")
	if n := valid.Need(m, 0); n != 70+40000+20 {
		t.Errorf("Need: %d", n)
	}
	if n := valid.Need(m, 1); n != 20 {
		t.Errorf("Need: %d", n)
	}
}

// TestNeedInvalid is of P17.2: no function of a module that isn't valid needs cells, whichever one is wrong.
func TestNeedInvalid(t *testing.T) {
	for _, do := range []func(*module.Module){
		func(m *module.Module) { m.Start = 3 },
		func(m *module.Module) { m.Table = -2 },
		func(m *module.Module) { m.Funcs[0].Body.L = row("drop; end") },
		func(m *module.Module) { m.Funcs[1].Body.L = nil },
		func(m *module.Module) { m.Funcs[3].Body.L = row("call 6; end") },
	} {
		m := some(t)
		do(m)
		for f := range 4 {
			if n := valid.Need(m, f); n != 0 {
				t.Errorf("Need of %d: %d", f, n)
			}
		}
	}
	for _, m := range []*module.Module{nil, {}, module.Empty()} {
		for _, f := range append(others, 0) {
			if n := valid.Need(m, f); n != 0 {
				t.Errorf("Need of %d, of nothing: %d", f, n)
			}
		}
	}
}

// calls holds which functions own functions call.
func calls(t *testing.T, m *module.Module, want ...string) {
	t.Helper()
	for f, w := range want {
		l := valid.Calls(m, f)
		if words(l...) != w || w == "" && l != nil {
			t.Errorf("Calls of %d: %v, not %s", f, l, w)
		}
	}
}

// TestCalls is of P17.2: functions that are called, imports among them, rising, none twice.
func TestCalls(t *testing.T) {
	calls(t, some(t), "", "", "", "0", "", "")
	m := lines(t, "sig ()->(); sig (i32)->(); import a b 0; import a c 0; "+
		"func 0; i32.const 0; call 3; call 2; end; "+
		"func 1; call 5; call 0; call 2; block; call 0; loop; call 1; local.get 0; if; call 5; else; call 4; end; end; end; call 2; end; "+
		"func 0; i32.const 1; call_indirect 0 0; i32.const 4; call 3; end; "+
		"func 0; unreachable; call 3; call 5; return; call 1; end; table 9")
	if !valid.Is(m) {
		t.Fatal("it isn't valid")
	}
	calls(t, m, "2 3", "0 1 2 4 5", "3", "1 3 5")
	for _, f := range others {
		if l := valid.Calls(m, f); l != nil {
			t.Errorf("Calls of %d: %v", f, l)
		}
	}
	for _, f := range append(others, 0) {
		if valid.Calls(nil, f) != nil || valid.Calls(&module.Module{}, f) != nil || valid.Calls(module.Empty(), f) != nil {
			t.Errorf("Calls of %d, of nothing", f)
		}
	}
	// All instructions that have a number 1, or 2, but call none.
	m.Funcs[0].Body.L = row("local.get 1; local.set 1; local.tee 2; global.get 1; global.set 1; br 1; br_if 1; br_table 1 2 1; call_indirect 1 2; i32.const 1; memory.size 1; return; end")
	calls(t, m, "")
}

// TestCallsMany is of P17.2: all functions that there may be, in any order.
func TestCallsMany(t *testing.T) {
	m := module.Empty()
	m.Sigs = some(t).Sigs[:1]
	m.Imports = slices.Repeat([]module.Import{{Module: "a", Name: "b"}}, 20)
	m.Funcs = slices.Repeat([]module.Func{{}}, 80)
	var want []int
	for i := range 300 {
		m.Funcs[79].Body.L = append(m.Funcs[79].Body.L, instr.Instr{Code: 16, A: uint64(i * 77 % 100)})
	}
	for f := range 100 {
		want = append(want, f)
	}
	if l := valid.Calls(m, 79); !slices.Equal(l, want) {
		t.Errorf("Calls: %v", l)
	}
	// What isn't valid may tell of what is no function.
	m.Funcs[79].Body.L = []instr.Instr{{Code: 16, A: 100}, {Code: 16, A: 1 << 63}, {Code: 16, A: math.MaxUint64}, {Code: 16, A: 99}, {Code: 16, A: 1<<32 + 1}}
	if l := valid.Calls(m, 79); !slices.Equal(l, []int{99}) {
		t.Errorf("Calls of what there isn't: %v", l)
	}
}

// TestBytes is of P17.2: a valid module of bytes, or why there is none.
func TestBytes(t *testing.T) {
	const head = "\x00asm\x01\x00\x00\x00"
	for _, m := range []*module.Module{module.Empty(), some(t)} {
		b, e := decode.Encode(m)
		if e != api.OK {
			t.Fatal(e)
		}
		old := slices.Clone(b)
		got, e := valid.Bytes(b)
		if e != api.OK || !module.Same(got, m) || !slices.Equal(b, old) {
			t.Errorf("Bytes: %v, %d", got, e)
		}
		clear(b)
		if !module.Same(got, m) {
			t.Error("it keeps its bytes")
		}
	}
	body := func(s string) string {
		return head + "\x01\x04\x01\x60\x00\x00\x03\x02\x01\x00\x0a" + string(rune(len(s)+2)) + "\x01" + string(rune(len(s))) + s
	}
	long := strings.Repeat("\x01", 4096)
	for _, c := range []struct {
		s    string
		want api.Errno
	}{
		{head, api.OK},
		{body("\x00\x0b"), api.OK},
		{body("\x00\x00\x0b"), api.OK},
		{head + "\x00\xfa\xff\x03" + strings.Repeat("\x00", 1<<16-14), api.ErrForm},
		{head + "\x00\xf4\xff\x03" + strings.Repeat("\x00", 1<<16-12), api.OK},
		{head + strings.Repeat("\x00", 1<<16-7), api.ErrLong},
		{"", api.ErrForm},
		{head[:7], api.ErrForm},
		{head + "\x0c\x00", api.ErrForm},
		{body("\x00\x06"), api.ErrForm},
		{body("\x00\x01"), api.ErrForm},
		{body("\x00\x43\x00\x00\x00\x00\x0b"), api.ErrProfile},
		{head + "\x01\x04\x01\x60\x00\x00\x03\x02\x01\x00\x0a\x84\x20\x01\x81\x20\x00" + long, api.ErrLong},
		// What isn't fit, and what isn't well typed.
		{head + "\x03\x02\x01\x00\x0a\x04\x01\x02\x00\x0b", api.ErrType},
		{head + "\x08\x01\x00", api.ErrType},
		{head + "\x04\x05\x01\x70\x00\xe9\x07", api.ErrType},
		{head + "\x05\x04\x01\x01\x02\x01", api.ErrType},
		{body("\x00\x1a\x0b"), api.ErrType},
		{body("\x00\x41\x05\x0b"), api.ErrType},
		{body("\x00\x20\x00\x1a\x0b"), api.ErrType},
		{body("\x00\x10\x01\x0b"), api.ErrType},
	} {
		m, e := valid.Bytes([]byte(c.s))
		if e != c.want || (m == nil) != (e != api.OK) {
			t.Errorf("Bytes of %.60x: %v, %d, not %d", c.s, m, e, c.want)
		}
	}
	if m, e := valid.Bytes(nil); m != nil || e != api.ErrForm {
		t.Errorf("Bytes of nil: %v, %d", m, e)
	}
}

// TestBytesNear is of P17.1 and P17.2: all bytes one byte from a module's; each is told as decode, Fit and Func tell it.
func TestBytesNear(t *testing.T) {
	b, e := decode.Encode(some(t))
	if e != api.OK {
		t.Fatal(e)
	}
	kinds := map[api.Errno]int{}
	for at := range b {
		for v := range 256 {
			near := slices.Clone(b)
			near[at] = byte(v)
			want, _, e := decode.Bytes(near)
			l := valid.All(want)
			if e == api.OK && !holds(want) {
				want, e = nil, api.ErrType
			}
			got, e2 := valid.Bytes(near)
			if e2 != e || !module.Same(got, want) || (len(l) == 0) != (e == api.OK) {
				t.Fatalf("Bytes of %x: %v, %d, not %v, %d; %v", near, got, e2, want, e, l)
			}
			kinds[e]++
		}
	}
	if kinds[api.OK] < 1000 || kinds[api.ErrType] < 1000 || kinds[api.ErrForm] < 1000 || kinds[api.ErrProfile] < 100 {
		t.Errorf("but %v", kinds)
	}
}

// holds tells whether a module is fit, and all its bodies are well typed.
func holds(m *module.Module) bool {
	_, e := m.Fit()
	for f := range m.Funcs {
		if _, e2 := check.Func(m, f); e2 != api.OK {
			return false
		}
	}
	return e == api.OK
}
