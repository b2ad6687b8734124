package plain_test

import (
	"slices"
	"strings"
	"testing"

	"grommet/api"
	"grommet/code"
	"grommet/module"
	"grommet/plain"
	"grommet/text"
	"grommet/types"
	"grommet/valid"
)

// lines is the module of lines, with ; between.
func lines(t *testing.T, s string) *module.Module {
	t.Helper()
	m, place, e := text.Read(strings.Split(s, "; "))
	if e != api.OK {
		t.Fatalf("Read of %q: %d, %d", s, place, e)
	}
	return m
}

// lined is a module's lines, with ; between.
func lined(m *module.Module) string {
	l, e := text.Write(m)
	if e != api.OK {
		return "none"
	}
	for i := range l {
		l[i] = strings.TrimLeft(l[i], " ")
	}
	return strings.Join(l, "; ")
}

// becomes holds the module that is made of one, how many instructions are saved, and that the one is let be.
func becomes(t *testing.T, s, want string, saved int) {
	t.Helper()
	m := lines(t, s)
	p, e := plain.Module(m)
	if e != api.OK || p == nil || p == m || lined(p) != want {
		t.Errorf("Module of %.200s: %.200s, %d, not %.200s", s, lined(p), e, want)
	}
	if n := plain.Saved(m); n != saved {
		t.Errorf("Saved of %.200s: %d, not %d", s, n, saved)
	}
	if lined(m) != s {
		t.Errorf("%.200s is %.200s now", s, lined(m))
	}
}

// TestModule is of P23.1: bodies are made plainer, all else is as it was.
func TestModule(t *testing.T) {
	becomes(t, "sig ()->(i32); func 0; nop; i32.const 2; i32.const 3; i32.add; end", "sig ()->(i32); func 0; i32.const 5; end", 3)
	const head = "sig (i32)->(i64); sig ()->(); import env get 0; "
	const tail = "; table 3; memory 1 -; memory 2 5 i64; global i32 var 7; export f func 1; start 2; elem 1 0 1 2; data 0 9 x0102"
	becomes(t, head+
		"func 0; locals i64 i32; local.get 0; nop; call 0; local.set 1; local.get 1; end; "+
		"func 1; return; i32.const 1; drop; end; "+
		"func 1; end"+tail, head+
		"func 0; locals i64 i32; local.get 0; call 0; local.tee 1; end; "+
		"func 1; return; end; "+
		"func 1; end"+tail, 4)
	// What is plain.
	becomes(t, "sig (i32)->(i32); func 0; local.get 0; i32.eqz; end", "sig (i32)->(i32); func 0; local.get 0; i32.eqz; end", 0)
	becomes(t, "sig ()->()", "sig ()->()", 0)
	becomes(t, "sig ()->(); import env get 0", "sig ()->(); import env get 0", 0)
	m := module.Empty()
	if p, e := plain.Module(m); e != api.OK || p == m || !module.Same(p, m) || plain.Saved(m) != 0 {
		t.Errorf("an empty one: %v, %d", p, e)
	}
}

// TestDeadTypes is of P23.1: where nothing is reached, what is left is well typed, too.
func TestDeadTypes(t *testing.T) {
	const ahead, loose = "sig (i64)->(i32); func 0; i32.const 5; return; ", "select; drop; i32.add; end"
	becomes(t, ahead+"i64.const 1; i64.eqz; block; end; end", ahead+"block; end; end", 2)
	becomes(t, ahead+"i32.const 1; if i64; i64.const 1; else; i64.const 2; end; i32.wrap_i64; select; end", ahead+"if i64; i64.const 1; else; i64.const 2; end; i32.wrap_i64; select; end", 1)
	becomes(t, ahead+"local.get 0; local.get 0; loop i32; i32.const 3; end; "+loose, ahead+"loop i32; i32.const 3; end; "+loose, 2)
	becomes(t, ahead+"i64.const 1; local.set 0; i32.const 1; block; br 0; drop; end; i32.add; end", ahead+"block; br 0; end; i32.add; end", 4)
	becomes(t, "sig ()->(); func 0; block i32; unreachable; i32.const 1; br_table 0 0; nop; end; drop; end", "sig ()->(); func 0; block i32; unreachable; end; drop; end", 3)
}

// TestErrors is of P23.1: ErrState of nil, ErrType of what isn't valid.
func TestErrors(t *testing.T) {
	refuses := func(what string, m *module.Module, want api.Errno) {
		if p, e := plain.Module(m); p != nil || e != want || plain.Saved(m) != 0 {
			t.Errorf("Module of %s: %v, %d; Saved %d", what, p, e, plain.Saved(m))
		}
	}
	refuses("nil", nil, api.ErrState)
	refuses("one without a signature", &module.Module{Funcs: []module.Func{{}}, Table: -1, Start: -1}, api.ErrType)
	refuses("one whose start there isn't", &module.Module{}, api.ErrType)
	refuses("one with a body of no instructions", &module.Module{Sigs: []types.Sig{{}}, Funcs: []module.Func{{}}, Table: -1, Start: -1}, api.ErrType)
	for _, s := range []string{"i32.const 1; end", "i32.const 1; i32.eqz; end", "i64.const 1; i32.eqz; drop; end", "i64.const 1; i32.const 1; i32.add; drop; end", "return; call 7; end", "local.get 0; drop; end", "global.get 0; drop; end", "return; local.get 0; end", "unreachable; i64.const 1; i32.eqz; end"} {
		m := lines(t, "sig ()->(); func 0; end; func 0; "+s)
		refuses(s, m, api.ErrType)
	}
	// It would be short enough, were it plainer.
	m := lines(t, "sig ()->(); func 0; end")
	m.Funcs[0].Body.L = append(slices.Repeat(row(t, "nop"), api.MaxCode), m.Funcs[0].Body.L...)
	refuses("one whose body is too long", m, api.ErrType)
}

// long is the lines of a body that has so many bytes when it is plainer: a word that is worked out has more than what it is worked out of.
func long(t *testing.T, plainer int) string {
	t.Helper()
	s := "func 0; locals i64"
	left := plainer - 4
	for ; left >= 13+9; left -= 13 {
		s += "; i64.const 1; i64.const 63; i64.shl; local.set 0"
	}
	for ; left%3 > 0; left -= 4 {
		s += "; global.get 0; global.set 0"
	}
	s += strings.Repeat("; block; end", left/3)
	return s + "; end"
}

// TestTooLong is of P23.1: if a body that is plainer would be too long, all bodies are as they are.
func TestTooLong(t *testing.T) {
	const head, tail = "sig ()->(); func 0; nop; nop; end; ", "; func 0; end; global i32 var 0"
	for size := api.MaxCode - 5; size < api.MaxCode+6; size++ {
		s := head + long(t, size) + tail
		want, saved := s, 0
		if size <= api.MaxCode {
			want = strings.ReplaceAll(s, "i64.const 1; i64.const 63; i64.shl", "i64.const -9223372036854775808")
			want = strings.ReplaceAll(want, "nop; ", "")
			saved = 2 + 2*strings.Count(s, "shl")
		}
		becomes(t, s, want, saved)
		m := lines(t, want)
		if b, e := m.Funcs[1].Body.Encode(); size <= api.MaxCode && (len(b) != size || e != api.OK) {
			t.Errorf("a body of %d bytes: %d, %d", size, len(b), e)
		}
	}
	// It would be twice as long.
	s := head + "func 0" + strings.Repeat("; i64.const 1; i64.const 63; i64.shl; global.set 0", 580) + "; end; global i64 var 0"
	becomes(t, s, s, 0)
}

// TestMost is of P23.1: a module of as many functions, and instructions, as there may be.
func TestMost(t *testing.T) {
	m := lines(t, "sig ()->()")
	l := append(slices.Repeat(row(t, "nop"), api.MaxCode-2), row(t, "end")...)
	for range api.MaxFuncs {
		m.Funcs = append(m.Funcs, module.Func{Body: code.Body{L: l}})
	}
	if n := plain.Saved(m); n != api.MaxFuncs*(api.MaxCode-2) {
		t.Errorf("Saved: %d", n)
	}
}

// TestShared is of the rules: what becomes of a module that was answered is nothing to the one that it was made of.
func TestShared(t *testing.T) {
	for _, body := range []string{"nop; end", "end", strings.TrimPrefix(long(t, 4097), "func 0; ")} {
		s := "sig ()->(); func 0; " + body + "; func 0; i32.const 1; drop; end; global i32 var 0"
		m := lines(t, s)
		p, e := plain.Module(m)
		if e != api.OK {
			t.Fatalf("Module: %d", e)
		}
		for i := range p.Funcs {
			clear(p.Funcs[i].Body.L)
		}
		clear(p.Funcs)
		p.Start, p.Table, p.Funcs, p.Globals = 0, 3, append(p.Funcs[:0], module.Func{Sig: 9}), nil
		if lined(m) != s || !valid.Is(m) {
			t.Errorf("%.100s is %.100s now", s, lined(m))
		}
		if q, e := plain.Module(m); e != api.OK || !valid.Is(q) {
			t.Errorf("again: %v, %d", q, e)
		}
	}
	l := row(t, "i32.const 1; i32.eqz; drop; end")
	m := &module.Module{Sigs: []types.Sig{{}}, Funcs: []module.Func{{Body: code.Body{L: l}}, {Body: code.Body{L: l}}}, Table: -1, Start: -1}
	if p, e := plain.Module(m); e != api.OK || told(p.Funcs[0].Body.L) != "end" || told(p.Funcs[1].Body.L) != "end" || told(l) != "i32.const 1; i32.eqz; drop; end" {
		t.Errorf("of one list twice: %v, %d", p, e)
	}
}
