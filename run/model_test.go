package run_test

import (
	"bytes"
	"strconv"
	"testing"

	"grommet/api"
	"grommet/block"
	"grommet/module"
	"grommet/pager"
	"grommet/run"
	"grommet/state"
	"grommet/text"
)

// paired is a machine beside what the chapter tells of it.
type paired struct {
	*second
	r     *run.Machine
	state *state.State
}

// pair makes both of a module.
func pair(t *testing.T, m *module.Module, c run.Config) *paired {
	t.Helper()
	store, _ := block.New(1024, 400)
	a := fresh(t, 1<<17)
	p, e := pager.New(a, store, 3)
	if e != api.OK {
		t.Fatalf("pager.New: %d", e)
	}
	s, trap, e := state.New(m, a, p, 5)
	if trap != api.NoTrap || e != api.OK {
		t.Fatalf("state.New: %d, %d", trap, e)
	}
	r, e := run.New(s, a, c)
	if e != api.OK {
		t.Fatalf("New of %v: %d", c, e)
	}
	return &paired{begins(m, c), r, s}
}

// question is a call.
type question struct {
	f    int
	args []uint64
}

// ask asks both, and holds their outcomes against each other, one by one, and all that is told behind each; it is the last one.
func (x *paired) ask(t *testing.T, q question) run.Outcome {
	t.Helper()
	asked := x.asked
	trail := x.call(q.f, q.args)
	for i, want := range trail {
		var o run.Outcome
		var e api.Errno
		if i == 0 {
			o, e = x.r.Call(q.f, q.args...)
		} else {
			asked++
			sig, _ := x.m.Sig(trail[i-1].Import)
			o, e = x.r.Give(answers(len(sig.Results), asked)...)
		}
		if !same(o, want) || e != api.OK {
			t.Fatalf("%s\n%v: the %d-th outcome is %v, %d, not %v", lined(x.m), q, i, o, e, want)
		}
		after(t, x.r, want)
	}
	last := trail[len(trail)-1]
	x.holds(t, q, last)
	return last
}

// holds holds what both tell, and their states.
func (x *paired) holds(t *testing.T, q question, last run.Outcome) {
	t.Helper()
	want := telling{x.fuel, x.spent, x.cells, x.frames, false, last.Err}
	if told(x.r) != want {
		t.Fatalf("%s\n%v: it tells %v, not %v", lined(x.m), q, told(x.r), want)
	}
	for i, v := range x.globals {
		if got, e := x.state.Global(i); got != v || e != api.OK {
			t.Fatalf("%s\n%v: the global %d: %d, not %d", lined(x.m), q, i, got, v)
		}
	}
}

// loaded holds the bytes of their memories.
func (x *paired) loaded(t *testing.T) {
	t.Helper()
	for i, b := range x.mems {
		mem, _ := x.state.Memory(i)
		if got, _, e := mem.Load(0, 0, len(b)); mem.Pages()*page != len(b) || !bytes.Equal(got, b) || e != api.OK {
			t.Fatalf("%s\nmemory %d has %d pages, other bytes, or %d", lined(x.m), i, mem.Pages(), e)
		}
	}
}

// lined is a module's lines.
func lined(m *module.Module) string {
	s, _ := text.Text(m)
	return s
}

// questions are some calls of a module of two imports and four functions.
func (c *chance) questions(m *module.Module) []question {
	var l []question
	for range 6 {
		q := question{f: 2 + c.below(4)}
		if c.below(20) == 0 {
			q.f = c.below(2)
		}
		sig, _ := m.Sig(q.f)
		for range sig.Params {
			v := uint64(c.below(6))
			if c.below(4) == 0 {
				v = c.word()
			}
			q.args = append(q.args, v)
		}
		l = append(l, q)
	}
	return l
}

// play asks all, up to the first one that fails, and answers how much they took: cells, frames, and the most fuel of one.
func (c *chance) play(t *testing.T, m *module.Module, config run.Config, l []question, count map[string]int) run.Config {
	t.Helper()
	x := pair(t, m, config)
	fuel := 0
	for _, q := range l {
		was := x.spent
		o := x.ask(t, q)
		fuel = max(fuel, x.spent-was)
		count[kind(o)]++
		count["host"] += len(x.trail)
		if o.Kind == run.Failed {
			break
		}
	}
	x.loaded(t)
	return run.Config{Cells: max(1, x.cells), Frames: max(1, x.frames), Fuel: fuel}
}

// kind is an outcome's, with its trap or error.
func kind(o run.Outcome) string {
	return []string{"done", "trap", "host", "fail"}[o.Kind] + " " + strconv.Itoa(int(o.Trap)+int(o.Err))
}

// TestModel holds machines against the chapter's words over any modules: with more than enough, with just as much as that took, and with one less of each.
func TestModel(t *testing.T) {
	c := chance(22)
	count := map[string]int{}
	for range 250 {
		m := c.grown(t)
		l := c.questions(m)
		exact := c.play(t, m, run.Config{Cells: 200, Frames: 12, Fuel: 400}, l, count)
		if again := c.play(t, m, exact, l, count); again.Cells > exact.Cells || again.Frames > exact.Frames || again.Fuel > exact.Fuel {
			t.Fatalf("with %v: %v", exact, again)
		}
		for _, less := range []run.Config{{exact.Cells - 1, exact.Frames, exact.Fuel}, {exact.Cells, exact.Frames - 1, exact.Fuel}, {exact.Cells, exact.Frames, exact.Fuel - 1}, {1 + c.below(exact.Cells), 1 + c.below(exact.Frames), c.below(exact.Fuel + 1)}} {
			if less.Cells > 0 && less.Frames > 0 && less.Fuel >= 0 {
				c.play(t, m, less, l, count)
			}
		}
	}
	for k, least := range map[string]int{"done 0": 900, "trap 1": 900, "trap 2": 10, "trap 4": 300, "trap 5": 60, "trap 6": 60, "fail 10": 300, "fail 11": 300, "host": 500} {
		if count[k] < least {
			t.Errorf("%q: %d times", k, count[k])
		}
	}
}
