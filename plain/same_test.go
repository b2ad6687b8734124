package plain_test

import (
	"bytes"
	"reflect"
	"slices"
	"strings"
	"testing"

	"grommet/api"
	"grommet/arena"
	"grommet/block"
	"grommet/check"
	"grommet/instr"
	"grommet/module"
	"grommet/pager"
	"grommet/plain"
	"grommet/run"
	"grommet/state"
	"grommet/valid"
)

// frame is a module whose functions get other bodies: two imports, and four own functions.
const frame = "sig (i32,i64)->(i32); sig (i32,i64)->(i64,i32); sig (i32,i64)->(); sig (i32)->(i64); sig (i64,i32)->(); import env get 3; import env put 4; " +
	"func 0; locals i32 i64 i32; i32.const 4; end; func 1; locals i32 i64 i32; i64.const 5; i32.const 6; end; func 2; locals i32 i64 i32; end; func 0; locals i32 i64 i32; local.get 0; end; " +
	"table 6; memory 1 3; memory 1 2 i64; global i32 var 3; global i64 var 65535; elem 0 0 1 2 3 4 5; data 0 0 x0102030405060708; data 1 65530 xf1f2f3f4f5f6"

// pieces are rows that are put into bodies, where they may stand there; those on a line are as likely as a line.
const pieces = `nop|nop; nop|i32.const 1; drop|i64.const 2; drop|local.get 1; drop|global.get 0; drop|local.get 2; local.set 4
i32.const 1; i32.add|i32.const 7; i32.and|i32.const 3; i32.shl|i32.const -1; i32.xor|i32.eqz|i32.clz|i32.extend8_s|i64.extend_i32_u|i64.extend_i32_s; i32.wrap_i64
i64.const 3; i64.sub|i64.const 5; i64.rotl|i64.const 9; i64.lt_s|i64.popcnt|i64.extend16_s|i32.wrap_i64|i32.wrap_i64; i64.extend_i32_s
i32.const 5; i32.const 6; i32.mul; local.set 2|i32.const 40; i32.const 9; i32.lt_u; local.set 2|i64.const 7; i64.const 8; i64.add; local.set 3|i64.const 7; i64.eqz; local.set 4
local.set 2; local.get 2|local.set 3; local.get 3|local.set 4; nop; local.get 4|local.tee 0|local.tee 1|local.set 0; local.get 0; local.get 0; i32.add
i32.const 6; i32.const 4; i32.div_s; i32.rem_u|local.get 4; i32.const 3; i32.gt_u; if; i64.const 9; i64.const 0; i64.div_u; local.set 3; end|i32.const 9; i32.const 2; i32.div_u; local.set 4|i32.const 3; i32.div_s|i64.const 2; i64.rem_s
global.get 0; i32.const 1; i32.add; global.set 0|global.get 1; i64.const 3; i64.mul; global.set 1|local.get 0; global.set 0|local.get 1; global.set 1
i32.const 16; local.get 0; i32.store 0 0 0|i32.const 8; i64.load 0 0 0; local.set 3|i64.const 65532; i32.load 1 0 0; local.set 2|local.get 0; i32.const 255; i32.and; i32.load8_u 0 0 0; drop|i32.const 1; memory.grow 0; drop|memory.size 0; local.set 4|i32.const 9; i32.const 7; i32.const 3; memory.fill 0
block; nop; end|loop; nop; end|i32.const 1; if; nop; end|block i32; i32.const 3; end; drop|local.get 0; if i32; i32.const 1; else; i32.const 2; end; local.set 2|if; else; end|i32.const 0; i32.eqz; if; local.get 3; local.set 1; end
loop; local.get 2; i32.const 1; i32.add; i32.const 7; i32.and; local.tee 2; br_if 0; end|block; local.get 0; br_if 0; nop; end|block; block; local.get 4; br_table 0 1; nop; end; nop; end|block i32; i32.const 1; local.get 0; br_if 0; i32.eqz; end; local.set 4
block; br 0; i32.const 1; drop; end|block i32; i32.const 3; br 0; i64.const 4; i64.eqz; end; drop|block i64; i64.const 1; i32.const 0; br_table 0 0; drop; end; local.set 3|local.get 0; i32.const 15; i32.and; i32.eqz; if; unreachable; nop; end
i32.const 2; call 0; drop|i64.const 3; i32.const 4; call 1|local.get 0; local.get 1; call 5; local.set 2|local.get 2; local.get 3; call 4|local.get 0; local.get 3; i32.const 2; i32.const 3; i32.add; call_indirect 0 0; drop|i32.const 2; call 0; local.set 3
i32.add|i64.sub|drop|select|i32.const 4|i64.const 5|local.get 0|local.set 2|br_if 0|i64.eqz`

// leaving are those behind which nothing is reached.
const leaving = `return|br 0|br 1|unreachable|br_table 0 1|br_table 0|local.get 0; return|local.get 1; local.get 0; return`

// rows are the pieces of a line.
func rows(t *testing.T, line string) [][]instr.Instr {
	t.Helper()
	var l [][]instr.Instr
	for _, s := range strings.Split(line, "|") {
		l = append(l, row(t, s))
	}
	return l
}

// again tells whether a row calls a function that calls, or may call, the one of this number.
func again(l []instr.Instr, f int) bool {
	return slices.ContainsFunc(l, func(x instr.Instr) bool {
		return x.Code == 16 && 2 <= x.A && x.A <= uint64(f) || x.Code == 17 && f == 5
	})
}

// grow puts pieces into a function's body, each where chance tells, if it is well typed then.
func (c *chance) grow(t *testing.T, m *module.Module, f int, lines [][][]instr.Instr, ends [][]instr.Instr) {
	t.Helper()
	body := &m.Funcs[f].Body
	for range 40 {
		line := lines[c.below(len(lines))]
		if c.below(40) == 0 {
			line = ends
		}
		piece := line[c.below(len(line))]
		if again(piece, 2+f) && c.below(10) > 0 {
			continue
		}
		was := body.L
		body.L = slices.Insert(slices.Clone(was), c.below(len(was)), piece...)
		if _, e := check.Func(m, f); e != api.OK {
			body.L = was
		}
	}
}

// grown is a valid module of grown bodies.
func (c *chance) grown(t *testing.T, all [][][]instr.Instr, ends [][]instr.Instr) *module.Module {
	t.Helper()
	m := lines(t, frame)
	for f := range m.Funcs {
		c.grow(t, m, f, all, ends)
	}
	if !valid.Is(m) {
		t.Fatalf("not valid: %s", lined(m))
	}
	return m
}

// device is a machine and its state.
type device struct {
	*run.Machine
	state *state.State
	asked int // how often its host was
}

// begun is a device of a module.
func begun(t *testing.T, m *module.Module, c run.Config) *device {
	t.Helper()
	store, _ := block.New(1024, 400)
	a, _ := arena.New(1 << 17)
	p, _ := pager.New(a, store, 3)
	s, trap, e := state.New(m, a, p, 0)
	if trap != api.NoTrap || e != api.OK {
		t.Fatalf("state.New: %d, %d", trap, e)
	}
	r, e := run.New(s, a, c)
	if e != api.OK {
		t.Fatalf("run.New of %v: %d", c, e)
	}
	return &device{r, s, 0}
}

// call is all outcomes of a call, hosts ahead of the last one.
func (d *device) call(f int, args ...uint64) []run.Outcome {
	o, _ := d.Call(f, args...)
	l := []run.Outcome{o}
	for o.Kind == run.Host {
		d.asked++
		sig, _ := d.state.Module().Sig(o.Import)
		results := make([]uint64, len(sig.Results))
		for i := range results {
			results[i] = uint64(d.asked * d.asked * 7 % 5)
		}
		o, _ = d.Give(results...)
		l = append(l, o)
	}
	return l
}

// left is what a device's calls left: globals, and memories' bytes.
func (d *device) left() ([]uint64, [][]byte) {
	var globals []uint64
	var mems [][]byte
	for i := range d.state.Module().Globals {
		v, _ := d.state.Global(i)
		globals = append(globals, v)
	}
	for i := range d.state.Module().Mems {
		mem, _ := d.state.Memory(i)
		b, _, _ := mem.Load(0, 0, mem.Pages()*api.PageSize)
		mems = append(mems, b)
	}
	return globals, mems
}

// call is what a function is called with.
type call struct {
	f    int
	a, b uint64
}

// ask asks two devices the same, and holds their outcomes, what they took, and what they left against each other; it is the last outcome of both.
func ask(t *testing.T, one, other *device, q call) run.Outcome {
	t.Helper()
	m := one.state.Module()
	was, then := one.Spent(), other.Spent()
	want := one.call(q.f, q.a, q.b)
	last := want[len(want)-1]
	if last.Kind == run.Failed {
		return last
	}
	if got := other.call(q.f, q.a, q.b); !reflect.DeepEqual(got, want) {
		t.Fatalf("%s\n%v: %v, not %v, of\n%s", lined(m), q, got, want, lined(other.state.Module()))
	}
	if more := other.Spent() - then; more > one.Spent()-was {
		t.Fatalf("%s\n%v: %d of fuel, not %d", lined(m), q, more, one.Spent()-was)
	}
	cells, frames := one.Peak()
	if c, f := other.Peak(); c > cells || f > frames {
		t.Fatalf("%s\n%v: %d cells and %d frames, not %d and %d", lined(m), q, c, f, cells, frames)
	}
	globals, mems := one.left()
	if g, b := other.left(); !slices.Equal(g, globals) || !slices.EqualFunc(b, mems, bytes.Equal) {
		t.Fatalf("%s\n%v: other globals, or bytes: %v, not %v", lined(m), q, g, globals)
	}
	return last
}

// play asks a module, and the plainer one, with ample room, and then with just what the first one took; it counts how the calls ended.
func (c *chance) play(t *testing.T, m, p *module.Module, count map[string]int) {
	t.Helper()
	ample := run.Config{Cells: 300, Frames: 8, Fuel: 3000}
	one, other := begun(t, m, ample), begun(t, p, ample)
	fuel := 0
	var asked []call
	for range 5 {
		q := call{2 + c.below(4), uint64(c.below(20)), uint64(c.below(20))}
		was := one.Spent()
		if o := ask(t, one, other, q); o.Kind == run.Failed {
			count["failed"]++
			break
		} else if o.Kind == run.Trapped {
			count["trapped"]++
		} else {
			count["done"]++
		}
		asked = append(asked, q)
		fuel = max(fuel, one.Spent()-was)
	}
	count["hosts"] += one.asked
	if other.Spent() < one.Spent() {
		count["less fuel"]++
	}
	if len(asked) == 0 {
		return
	}
	cells, frames := one.Peak()
	one, other = begun(t, m, ample), begun(t, p, run.Config{Cells: max(1, cells), Frames: max(1, frames), Fuel: fuel})
	for _, q := range asked {
		ask(t, one, other, q)
	}
}

// TestSame is of P23.2: a module made plainer gives the same, and needs no more; by steps of all numbers.
func TestSame(t *testing.T) {
	var all [][][]instr.Instr
	for _, line := range strings.Split(pieces, "\n") {
		all = append(all, rows(t, line))
	}
	ends := rows(t, leaving)
	c := chance(2023)
	count := map[string]int{}
	var steps [7]int
	for range 120 {
		m := c.grown(t, all, ends)
		p, e := plain.Module(m)
		if e != api.OK || !valid.Is(p) {
			t.Fatalf("Module of %s: %d", lined(m), e)
		}
		for f := range m.Funcs {
			against(t, m.Funcs[f].Body.L, &steps)
			if !same(p.Funcs[f].Body.L, plain.Body(m.Funcs[f].Body.L)) || valid.Need(p, f) > valid.Need(m, f) {
				t.Fatalf("the function %d of %s: %s", f, lined(m), lined(p))
			}
		}
		c.play(t, m, p, count)
	}
	for n, least := range [...]int{0, 300, 100, 300, 300, 100, 300} {
		if steps[n] < least {
			t.Errorf("the step %d: %d times", n, steps[n])
		}
	}
	for k, least := range map[string]int{"done": 200, "trapped": 50, "hosts": 50, "less fuel": 70} {
		if count[k] < least {
			t.Errorf("%q: %d times", k, count[k])
		}
	}
}
