package run_test

import (
	"slices"
	"strings"
	"testing"

	"grommet/api"
	"grommet/check"
	"grommet/instr"
	"grommet/module"
)

// chance is numbers that are as good as any, the same ones each time.
type chance uint64

// word is any word.
func (c *chance) word() uint64 {
	*c = *c*6364136223846793005 + 1442695040888963407
	return uint64(*c) ^ uint64(*c)>>31
}

// below is a number below n.
func (c *chance) below(n int) int {
	return int(c.word() >> 33 % uint64(n))
}

// frames are modules whose functions get other bodies: of two imports, and four own functions, with locals of both types.
const (
	heads = "sig (i32,i64)->(i32); sig (i32,i64)->(i64,i32); sig (i32,i64)->(); sig (i32)->(i64); sig (i64,i32)->(); sig (i32,i64)->(i32); import env get 3; import env put 4"
	tails = "table 7; memory 1 3; memory 1 2 i64; global i32 var 3; global i64 var 65535; global i32 const 65530; elem 0 2 3 4 5; elem 5 0 1; data 0 0 x0102030405060708; data 0 65530 xf1f2f3f4f5f6; data 1 3 xffffffff"
)

// pieces are instructions of which bodies are grown; those on a line are as likely as a line.
const pieces = `i32.const 0; i32.const 1; i32.const 2; i32.const 3; i32.const 5; i32.const 6; i32.const -1; i32.const 100; i32.const 65533
i64.const 0; i64.const 1; i64.const 2; i64.const -1; i64.const 100; i64.const 65533; i64.const 4294967296
local.get 0; local.get 1; local.get 2; local.get 3
local.get 0; local.get 1; local.get 2; local.get 3
local.set 0; local.set 1; local.set 2; local.set 3; local.tee 0; local.tee 1; local.tee 2; local.tee 3
global.get 0; global.get 1; global.get 2; global.set 0; global.set 1
i32.add; i32.sub; i32.and; i32.eqz; i32.lt_s; i32.shl; i32.div_u; i32.clz; i32.wrap_i64; i32.extend8_s; i32.extend16_s
i64.add; i64.sub; i64.eq; i64.eqz; i64.rem_s; i64.popcnt; i64.extend_i32_s; i64.extend_i32_u; i64.extend8_s; i64.extend16_s; i64.extend32_s
i32.load 0 0 2; i64.load 0 2 0; i32.load8_s 0 1 0; i32.load16_u 1 0 0; i64.load32_s 1 3 0; i64.load8_u 0 0 0; i32.load16_s 0 65000 0; i64.load32_u 0 0 0; i64.load16_s 1 0 1
i32.store 0 0 2; i64.store 0 4 0; i32.store8 1 0 0; i64.store16 0 7 0; i64.store32 1 0 0; i32.store16 0 0 0; i64.store8 1 65530 0
memory.size 0; memory.size 1; memory.grow 0; memory.grow 1; memory.fill 0; memory.fill 1; memory.copy 0 0; memory.copy 1 0; memory.copy 0 1; memory.copy 1 1
block; block i32; block i64; loop; loop i32; if; if i32; if i64
block; loop; if; if i32; else; end
else; end
br 0; br 1; br 2; return; br_table 0 1; br_table 1 0 0; br_table 0 1 0 2
br_if 0; br_if 1; br_if 2; br_if 0; br_if 1
call 0; call 1; call 2; call 3; call 4; call 5
call_indirect 0 0; call_indirect 1 0; call_indirect 2 0; call_indirect 3 0; call_indirect 4 0; call_indirect 5 0
nop; drop; select; select; unreachable`

// row is instructions' texts, with a ; between.
func row(s string) []instr.Instr {
	var l []instr.Instr
	for _, x := range strings.Split(s, "; ") {
		in, e := instr.Parse(x)
		if e != api.OK {
			panic(x)
		}
		l = append(l, in)
	}
	return l
}

// grower grows the body of a module's function.
type grower struct {
	*chance
	m *module.Module
	f int
	l []instr.Instr
}

// ended is a row with what closes its blocks and itself, each end behind unreachable.
func ended(l []instr.Instr) []instr.Instr {
	stop, half, end := instr.Instr{}, instr.Instr{Code: 5}, instr.Instr{Code: 11}
	out := slices.Clone(l)
	for open := around(l); len(open) > 0; open = open[:len(open)-1] {
		if top := open[len(open)-1]; top.Code == 4 && top.A != 0 {
			out = append(out, stop, half)
		}
		out = append(out, stop, end)
	}
	return append(out, stop, end)
}

// around is the instructions at which the blocks that are open begin; A of those that have their else is 0.
func around(l []instr.Instr) []instr.Instr {
	var open []instr.Instr
	for _, x := range l {
		switch {
		case opens(x):
			open = append(open, x)
		case x.Code == 5:
			open[len(open)-1].A = 0
		case x.Code == 11:
			open = open[:len(open)-1]
		}
	}
	return open
}

// fine tells whether a row is well typed, if it is ended as it is handed in.
func (g *grower) fine(l []instr.Instr) bool {
	g.m.Funcs[g.f].Body.L = l
	_, e := check.Func(g.m, g.f)
	return e == api.OK
}

// try puts instructions behind the others, if they may stand there.
func (g *grower) try(l ...instr.Instr) bool {
	next := slices.Concat(g.l, l)
	if l[0].Code == 5 && len(around(g.l)) == 0 || l[0].Code == 11 && len(around(g.l)) == 0 || !g.fine(ended(next)) {
		return false
	}
	g.l = next
	return true
}

// leaves tells whether what stands behind an instruction isn't reached from it.
func leaves(x instr.Instr) bool {
	return x.Code == 0 || x.Code == 12 || x.Code == 14 || x.Code == 15
}

// grow grows a body of some n pieces.
func (g *grower) grow(all [][]instr.Instr, n int) {
	for range 5 * n {
		if len(g.l) >= n {
			break
		}
		l := all[g.below(len(all))]
		x := l[g.below(len(l))]
		if leaves(x) && g.below(4) > 0 || x.Code == 0 && g.below(4) > 0 {
			continue
		}
		g.try(x)
	}
	for len(around(g.l)) > 0 {
		g.close(func(l []instr.Instr) bool { return g.try(l...) })
	}
	g.close(func(l []instr.Instr) bool {
		next := slices.Concat(g.l, l)
		return g.fine(next)
	})
}

// close ends a block, or the body, by as little as may be.
func (g *grower) close(ends func(l []instr.Instr) bool) {
	for _, last := range []string{"end", "else; end", "else; i32.const 4; end", "else; i64.const 4; end"} {
		for _, ahead := range []string{"", "i32.const 9; ", "i64.const 9; ", "drop; ", "drop; drop; ", "i64.const 9; i32.const 9; ", "drop; i64.const 9; i32.const 9; ", "drop; drop; i32.const 9; ", "drop; drop; drop; "} {
			if ends(row(ahead + last)) {
				return
			}
		}
	}
	if !ends(row("unreachable; end")) && !ends(row("unreachable; else; unreachable; end")) {
		panic("no end")
	}
}

// grown is a valid module of grown bodies.
func (c *chance) grown(t *testing.T) *module.Module {
	t.Helper()
	var all [][]instr.Instr
	for _, l := range strings.Split(pieces, "\n") {
		all = append(all, row(l))
	}
	s := heads
	for range 4 {
		s += "; func " + []string{"0", "1", "2"}[c.below(3)] + "; locals i32 i64; unreachable; end"
	}
	m := lines(t, s+"; "+tails)
	for f := range m.Funcs {
		g := &grower{chance: c, m: m, f: f}
		g.grow(all, 4+c.below(30))
		if _, e := check.Func(m, f); e != api.OK {
			t.Fatalf("no body: %d", e)
		}
	}
	return m
}
