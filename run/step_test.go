package run_test

import (
	"math"
	"strconv"
	"strings"
	"testing"

	"grommet/api"
	"grommet/conv"
	"grommet/op"
	"grommet/run"
	"grommet/types"
	"grommet/word"
)

// asked is a call of the function 0, what comes of it, and how much fuel it takes.
type asked struct {
	sig, body string
	args      []uint64
	want      run.Outcome
	fuel      int
}

// asks holds functions' outcomes, and that they take just so much fuel, of a module with some lines behind them.
func asks(t *testing.T, behind string, l ...asked) {
	t.Helper()
	for _, x := range l {
		s := "sig " + x.sig + "; func 0; " + x.body + behind
		r := machine(t, s, ample)
		o, e := r.Call(0, x.args...)
		if !same(o, x.want) || e != api.OK || r.Spent() != x.fuel || r.Fuel() != ample.Fuel-x.fuel {
			t.Errorf("%q of %v: %v, %d, for %d, not %v, for %d", s, x.args, o, e, r.Spent(), x.want, x.fuel)
			continue
		}
		if !strings.Contains(behind, "memory") {
			// The next call finds nothing of this one.
			calls(t, r, x.want, 0, x.args...)
		}
		exact := ample
		exact.Fuel = x.fuel
		calls(t, machine(t, s, exact), x.want, 0, x.args...)
		if exact.Fuel--; x.fuel > 0 {
			calls(t, machine(t, s, exact), failed(api.ErrFuel), 0, x.args...)
		}
	}
}

// of is arguments.
func of(l ...uint64) []uint64 {
	return l
}

// TestPlain is of the chapter's words: what moves words, and what does nothing.
func TestPlain(t *testing.T) {
	asks(t, "; global i32 var 7; global i64 var -8; global i32 const 9",
		asked{"()->()", "end", nil, done(), 1},
		asked{"()->()", "nop; nop; end", nil, done(), 3},
		asked{"()->(i32)", "i32.const 5; end", nil, done(5), 2},
		asked{"()->(i32)", "i32.const -1; end", nil, done(math.MaxUint32), 2},
		asked{"()->(i64)", "i64.const -1; end", nil, done(math.MaxUint64), 2},
		asked{"()->(i32,i64)", "i32.const 5; i64.const 6; end", nil, done(5, 6), 3},
		asked{"(i32,i64)->(i64,i32)", "local.get 1; local.get 0; end", of(1, 2), done(2, 1), 3},
		asked{"(i32)->(i32)", "i32.const 3; local.get 0; drop; end", of(1), done(3), 4},
		asked{"(i32)->(i64)", "i64.const 3; i64.const 4; local.get 0; select; end", of(1), done(3), 5},
		asked{"(i32)->(i64)", "i64.const 3; i64.const 4; local.get 0; select; end", of(0), done(4), 5},
		asked{"(i32)->(i64)", "i64.const 3; i64.const 4; local.get 0; select; end", of(1 << 31), done(3), 5},
		asked{"(i32)->(i32,i32)", "i32.const 1; i32.const 3; i32.const 4; local.get 0; select; end", of(0), done(1, 4), 6},
		asked{"(i32)->(i32)", "i32.const 3; local.set 0; local.get 0; end", of(1), done(3), 4},
		asked{"(i32,i32)->(i32,i32,i32)", "i32.const 3; local.tee 1; local.get 0; local.get 1; end", of(1, 2), done(3, 1, 3), 5},
		asked{"(i32)->(i32,i64,i32)", "locals i64 i32; local.get 0; local.get 1; local.get 2; end", of(5), done(5, 0, 0), 4},
		asked{"(i32)->(i32,i64,i32)", "locals i64 i32; i64.const 4; local.set 1; i32.const 6; local.set 2; local.get 0; local.get 1; local.get 2; end", of(5), done(5, 4, 6), 8},
		asked{"()->(i32,i64,i32)", "global.get 0; global.get 1; global.get 2; end", nil, done(7, 1<<64-8, 9), 4},
		asked{"(i64)->(i64)", "local.get 0; global.set 1; global.get 1; end", of(1 << 40), done(1 << 40), 4},
	)
}

// TestGlobal is of the chapter's words: the state is as it was left, behind all outcomes.
func TestGlobal(t *testing.T) {
	m := lines(t, "sig (i32,i64)->(); func 0; local.get 0; global.set 0; local.get 1; global.set 1; end; func 0; local.get 0; global.set 0; unreachable; end; global i32 var 7; global i64 var -8")
	d := paged(t, m, 10000, 1, 1)
	r := d.made(t, run.Config{Cells: 10, Frames: 1, Fuel: 5})
	global := func(i int, want uint64) {
		t.Helper()
		if v, e := d.state.Global(i); v != want || e != api.OK {
			t.Errorf("global %d: %d, %d, not %d", i, v, e, want)
		}
	}
	calls(t, r, done(), 0, 1<<33+5, 1<<33+6)
	global(0, 5)
	global(1, 1<<33+6)
	calls(t, r, trapped(api.Unreachable), 1, 4, 3)
	global(0, 4)
	global(1, 1<<33+6)
	r.Close()
	r = d.made(t, run.Config{Cells: 10, Frames: 1, Fuel: 3})
	calls(t, r, failed(api.ErrFuel), 0, 8, 9)
	global(0, 8)
	global(1, 1<<33+6)
}

// TestBlocks is of the chapter's words, and chapter 18's: blocks, branches, and what each instruction takes.
func TestBlocks(t *testing.T) {
	const (
		either = "local.get 0; if i32; i32.const 1; else; i32.const 2; end; end"
		leaves = "local.get 0; if i32; i32.const 1; br 0; else; i32.const 2; br 0; end; end"
		only   = "local.get 0; if; nop; end; end"
		out    = "local.get 0; if; br 0; unreachable; end; end"
		keeps  = "block i32; i32.const 5; local.get 0; br_if 0; drop; i32.const 6; end; end"
		own    = "i32.const 5; local.get 0; br_if 0; drop; i32.const 6; end"
		table  = "block; block; block; local.get 0; br_table 0 1 2; end; i32.const 10; return; end; i32.const 11; return; end; i32.const 12; end"
		kept   = "i64.const 8; block i32; i64.const 7; i32.const 5; local.get 0; br_table 0 1 0; end; i32.const 1; i32.add; return; end"
		deep   = "local.get 0; if i32; local.get 1; if i32; i32.const 1; else; i32.const 2; end; else; local.get 1; if i32; i32.const 3; else; i32.const 4; end; end; end"
	)
	asks(t, "",
		asked{"()->(i32)", "block i32; i32.const 5; end; end", nil, done(5), 4},
		asked{"()->(i32)", "loop i32; i32.const 5; end; end", nil, done(5), 4},
		asked{"()->()", "block; br 0; unreachable; end; end", nil, done(), 3},
		asked{"()->()", "block; block; br 1; unreachable; end; unreachable; end; end", nil, done(), 4},
		asked{"()->()", "br 0; unreachable; end", nil, done(), 1},
		asked{"()->()", "return; unreachable; end", nil, done(), 1},
		asked{"()->()", "block; block; br 2; unreachable; end; unreachable; end; unreachable; end", nil, done(), 3},
		asked{"()->(i32)", "i32.const 1; i64.const 2; i32.const 5; return; end", nil, done(5), 4},
		asked{"()->(i32,i64)", "i32.const 1; i32.const 2; i64.const 5; br 0; end", nil, done(2, 5), 4},
		asked{"()->(i32,i64)", "i32.const 1; loop; i32.const 2; i64.const 5; return; end; unreachable; end", nil, done(2, 5), 5},
		asked{"()->(i32)", "block i32; i64.const 9; i32.const 5; br 0; end; end", nil, done(5), 5},
		asked{"()->(i64,i32)", "i64.const 7; block i32; i64.const 9; i32.const 5; br 0; end; end", nil, done(7, 5), 6},
		asked{"(i32)->(i32)", either, of(1), done(1), 6},
		asked{"(i32)->(i32)", either, of(1 << 31), done(1), 6},
		asked{"(i32)->(i32)", either, of(1 << 32), done(2), 5},
		asked{"(i32)->(i32)", either, of(0), done(2), 5},
		asked{"(i32)->(i32)", leaves, of(1), done(1), 5},
		asked{"(i32)->(i32)", leaves, of(0), done(2), 5},
		asked{"(i32,i32)->(i32)", deep, of(1, 1), done(1), 10},
		asked{"(i32,i32)->(i32)", deep, of(1, 0), done(2), 9},
		asked{"(i32,i32)->(i32)", deep, of(0, 1), done(3), 9},
		asked{"(i32,i32)->(i32)", deep, of(0, 0), done(4), 8},
		asked{"(i32)->()", only, of(7), done(), 5},
		asked{"(i32)->()", only, of(0), done(), 4},
		asked{"(i32)->()", out, of(7), done(), 4},
		asked{"(i32)->()", out, of(0), done(), 4},
		asked{"(i32)->(i32)", keeps, of(1), done(5), 5},
		asked{"(i32)->(i32)", keeps, of(0), done(6), 8},
		asked{"(i32)->(i32)", own, of(1), done(5), 3},
		asked{"(i32)->(i32)", own, of(0), done(6), 6},
		asked{"(i32)->(i32)", table, of(0), done(10), 7},
		asked{"(i32)->(i32)", table, of(1), done(11), 7},
		asked{"(i32)->(i32)", table, of(2), done(12), 7},
		asked{"(i32)->(i32)", table, of(3), done(12), 7},
		asked{"(i32)->(i32)", table, of(math.MaxUint32), done(12), 7},
		asked{"(i32)->(i32)", kept, of(0), done(6), 9},
		asked{"(i32)->(i32)", kept, of(1), done(5), 6},
		asked{"(i32)->(i32)", kept, of(2), done(6), 9},
		asked{"(i32)->(i32)", kept, of(9), done(6), 9},
	)
}

// TestLoops is of the chapter's words: loops, with something below them, and something left above.
func TestLoops(t *testing.T) {
	const (
		sum   = "locals i32; loop; local.get 0; local.get 1; i32.add; local.set 1; local.get 0; i32.const 1; i32.sub; local.tee 0; br_if 0; end; local.get 1; end"
		below = "i32.const 5; loop; local.get 0; i32.const 1; i32.sub; local.tee 0; br_if 0; end; end"
		above = "i32.const 5; loop; i64.const 3; local.get 0; if; i64.const 4; local.get 0; i32.const 1; i32.sub; local.set 0; br 1; end; drop; end; end"
		two   = "locals i32 i32; loop; local.get 0; local.set 1; loop; local.get 2; i32.const 1; i32.add; local.set 2; local.get 1; i32.const 1; i32.sub; local.tee 1; br_if 0; end; local.get 0; i32.const 1; i32.sub; local.tee 0; br_if 0; end; local.get 2; end"
		table = "i32.const 5; block; loop; i64.const 1; local.get 0; i32.const 1; i32.sub; local.tee 0; br_table 1 0 0; end; end; end"
	)
	asks(t, "",
		asked{"(i32)->(i32)", sum, of(1), done(1), 13},
		asked{"(i32)->(i32)", sum, of(3), done(6), 31},
		asked{"(i32)->(i32)", sum, of(100), done(5050), 904},
		asked{"(i32)->(i32)", below, of(1), done(5), 9},
		asked{"(i32)->(i32)", below, of(3), done(5), 19},
		asked{"(i32)->(i32)", above, of(0), done(5), 9},
		asked{"(i32)->(i32)", above, of(2), done(5), 27},
		asked{"(i32)->(i32)", two, of(3), done(6), 4 + 9*3 + 9*6},
		asked{"(i32)->(i32)", table, of(1), done(5), 10},
		asked{"(i32)->(i32)", table, of(4), done(5), 28},
	)
}

// TestFuelEnds is of P22.3: what never ends of itself is over with the fuel, at each number of it.
func TestFuelEnds(t *testing.T) {
	for _, s := range []string{"loop; br 0; end; end", "loop; loop; br 1; end; unreachable; end; end", "loop; i32.const 1; br_if 0; end; end", "loop; i32.const 0; br_table 0 1; end; end", "i64.const 1; loop; loop; nop; i64.const 2; br 1; end; unreachable; end; drop; end"} {
		for fuel := range 40 {
			c := run.Config{Cells: 10, Frames: 1, Fuel: fuel}
			r := machine(t, "sig ()->(); func 0; "+s, c)
			calls(t, r, failed(api.ErrFuel), 0)
			if r.Fuel() != 0 || r.Spent() != fuel {
				t.Errorf("%q with %d: %d is left, %d was spent", s, fuel, r.Fuel(), r.Spent())
			}
		}
	}
	r := machine(t, "sig ()->(); func 0; loop; br 0; end; end", run.Config{Cells: 1, Frames: 1, Fuel: 10000000})
	calls(t, r, failed(api.ErrFuel), 0)
	if r.Spent() != 10000000 {
		t.Errorf("%d was spent", r.Spent())
	}
}

// TestTraps is of the chapter's words: traps of words, and by unreachable; what stands behind isn't done, and the next call may come.
func TestTraps(t *testing.T) {
	const (
		two32 = "global.get 0; i32.const 1; i32.add; global.set 0; local.get 0; local.get 1; "
		two64 = "i32.const 9; local.get 0; local.get 1; "
	)
	asks(t, "; global i32 var 0",
		asked{"()->()", "unreachable; end", nil, trapped(api.Unreachable), 1},
		asked{"()->(i32)", "i32.const 1; loop; unreachable; end; end", nil, trapped(api.Unreachable), 3},
		asked{"(i32,i32)->(i32)", two32 + "i32.div_s; end", of(1<<31, math.MaxUint32), trapped(api.Overflow), 7},
		asked{"(i32,i32)->(i32)", two32 + "i32.div_s; end", of(7, 0), trapped(api.DivZero), 7},
		asked{"(i32,i32)->(i32)", two32 + "i32.div_s; end", of(1<<32-7, 2), done(1<<32 - 3), 8},
		asked{"(i32,i32)->(i32)", two32 + "i32.div_u; end", of(7, 0), trapped(api.DivZero), 7},
		asked{"(i32,i32)->(i32)", two32 + "i32.div_u; end", of(7, 2), done(3), 8},
		asked{"(i32,i32)->(i32)", two32 + "i32.rem_s; end", of(7, 0), trapped(api.DivZero), 7},
		asked{"(i32,i32)->(i32)", two32 + "i32.rem_s; end", of(1<<31, math.MaxUint32), done(0), 8},
		asked{"(i32,i32)->(i32)", two32 + "i32.rem_u; end", of(7, 0), trapped(api.DivZero), 7},
		asked{"(i64,i64)->(i32,i64)", two64 + "i64.div_s; end", of(1<<63, math.MaxUint64), trapped(api.Overflow), 4},
		asked{"(i64,i64)->(i32,i64)", two64 + "i64.div_s; end", of(1<<31, math.MaxUint64), done(9, 1<<64-1<<31), 5},
		asked{"(i64,i64)->(i32,i64)", two64 + "i64.div_u; end", of(7, 0), trapped(api.DivZero), 4},
		asked{"(i64,i64)->(i32,i64)", two64 + "i64.rem_s; end", of(1<<63, math.MaxUint64), done(9, 0), 5},
		asked{"(i64,i64)->(i32,i64)", two64 + "i64.rem_u; end", of(7, 0), trapped(api.DivZero), 4},
	)
}

// edges are words at which ops differ.
var edges = []uint64{0, 1, 2, 31, 32, 33, 63, 64, 127, 128, 255, 256, 32767, 32768, 65535, 1<<31 - 1, 1 << 31, 1<<31 + 1, 1<<32 - 2, 1<<32 - 1, 1 << 32, 1<<63 - 1, 1 << 63, 1<<63 + 1<<31, 1<<64 - 2, 1<<64 - 1, 0x0123456789abcdef, 0xfedcba9876543210}

// single is a machine of a function of one instruction, that takes its parameters.
func single(t *testing.T, x op.Info) *run.Machine {
	t.Helper()
	body := ""
	for i := range x.Takes {
		body += "local.get " + strconv.Itoa(i) + "; "
	}
	s := types.Sig{Params: x.Takes, Results: x.Gives}
	return machine(t, "sig "+s.Print()+"; func 0; "+body+x.Name+"; end", ample)
}

// TestWords is of the chapter's words, and of chapters 5 and 6: each op that layer 5 does, of all edges; the last one is the topmost.
func TestWords(t *testing.T) {
	seen := 0
	for _, x := range op.All() {
		group, number, bits, ok := op.Numeric(x.Code)
		if !ok {
			continue
		}
		seen++
		r := single(t, x)
		for _, a := range edges {
			if group == op.GroupUnary {
				v, _ := word.Unary(number, bits, a)
				calls(t, r, done(v), 0, a)
				continue
			}
			for _, b := range edges {
				v, trap, _ := word.Binary(number, bits, a, b)
				want := done(v)
				if group == op.GroupTest {
					v, _ = word.Test(number, bits, a, b)
					want = done(v)
				} else if trap != api.NoTrap {
					want = trapped(trap)
				}
				calls(t, r, want, 0, a, b)
			}
		}
	}
	if seen != 58 {
		t.Errorf("%d ops", seen)
	}
}

// TestWidths is of the chapter's words, and of chapter 6: words of another width.
func TestWidths(t *testing.T) {
	for _, c := range []struct {
		name     string
		from, to int
		signed   bool
	}{
		{"i32.extend8_s", 8, 32, true}, {"i32.extend16_s", 16, 32, true},
		{"i64.extend8_s", 8, 64, true}, {"i64.extend16_s", 16, 64, true}, {"i64.extend32_s", 32, 64, true},
		{"i64.extend_i32_s", 32, 64, true}, {"i64.extend_i32_u", 32, 64, false},
	} {
		x, _ := op.Named(c.name)
		r := single(t, x)
		for _, a := range edges {
			v, e := conv.Extend(c.from, c.to, c.signed, a)
			if e != api.OK {
				t.Fatal(c)
			}
			calls(t, r, done(v), 0, a)
		}
	}
	x, _ := op.Named("i32.wrap_i64")
	r := single(t, x)
	for _, a := range edges {
		calls(t, r, done(uint64(uint32(a))), 0, a)
	}
	asks(t, "",
		asked{"(i32)->(i64)", "local.get 0; i64.extend_i32_s; end", of(1 << 31), done(1<<64 - 1<<31), 3},
		asked{"(i32)->(i64)", "local.get 0; i64.extend_i32_u; end", of(1 << 31), done(1 << 31), 3},
		asked{"(i64)->(i32)", "local.get 0; i32.wrap_i64; end", of(1<<40 + 5), done(5), 3},
		asked{"(i64)->(i64)", "local.get 0; i64.extend8_s; end", of(511), done(math.MaxUint64), 3},
		asked{"(i32)->(i32)", "local.get 0; i32.extend16_s; end", of(1<<16 + 1<<15), done(1<<32 - 1<<15), 3},
	)
}
