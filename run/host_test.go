package run_test

import (
	"math"
	"testing"

	"grommet/api"
	"grommet/run"
)

// TestGive is of P22.1: what Give refuses, and when.
func TestGive(t *testing.T) {
	r := machine(t, "sig (i32)->(i64,i32); sig ()->(); import a b 0; import a c 1; func 0; local.get 0; call 0; end; func 1; call 1; end", ample)
	for f := range 2 {
		declines(t, r, api.ErrState)
		declines(t, r, api.ErrState, 1, 2)
		calls(t, r, hosted(0, 5), 2*f, 5)
		for n := range 5 {
			if n != 2 {
				declines(t, r, api.ErrArg, make([]uint64, n)...)
			}
			refuses(t, r, api.ErrState, n-1)
			refuses(t, r, api.ErrState, n-1, 5)
		}
		gives(t, r, done(1<<40, 7), 1<<40, 1<<40+7)
		declines(t, r, api.ErrState, 1, 2)
		calls(t, r, hosted(1), 2*f+1)
		declines(t, r, api.ErrArg, 1)
		gives(t, r, done())
		declines(t, r, api.ErrState)
	}
}

// TestImport is of the chapter's words: an import that is called from without takes no fuel, and its results no cells.
func TestImport(t *testing.T) {
	r := machine(t, "sig (i64)->(i64,i64,i32); sig ()->(); import a b 1; import a c 0", run.Config{Cells: 1, Frames: 1, Fuel: 0})
	for range 3 {
		calls(t, r, hosted(1, 4), 1, 4)
		gives(t, r, done(1, 2, math.MaxUint32), 1, 2, math.MaxUint64)
		calls(t, r, hosted(0), 0)
		gives(t, r, done())
	}
	tells(t, r, telling{})
	r = machine(t, "sig ()->(); import a b 0", run.Config{Cells: 1, Frames: 1, Fuel: 7})
	calls(t, r, hosted(0), 0)
	tells(t, r, telling{fuel: 7, waits: true})
}

// TestWithin is of the chapter's words: imports that are asked by calls within others, and how all goes on behind them: fuel, cells and frames, what stands below.
func TestWithin(t *testing.T) {
	const s = "sig (i32,i64)->(i64); sig ()->(i64); sig (i32)->(i64); import a b 1; import a c 0; " +
		"func 2; i64.const 100; local.get 0; i64.const 5; call 1; i64.sub; call 3; i64.add; end; func 1; locals i64; call 0; local.tee 0; call 0; i64.mul; local.get 0; i64.add; end"
	r := machine(t, s, run.Config{Cells: 9, Frames: 2, Fuel: 20})
	for range 3 {
		was := r.Spent()
		calls(t, r, hosted(1, 7, 5), 2, 7)
		if r.Fuel() != 16 || r.Spent()-was != 4 {
			t.Errorf("%d is left, %d was spent", r.Fuel(), r.Spent()-was)
		}
		gives(t, r, hosted(0), 40)
		if r.Fuel() != 13 {
			t.Errorf("%d is left", r.Fuel())
		}
		gives(t, r, hosted(0), 3)
		// 100 - 40, and 3 * 8 + 3.
		gives(t, r, done(87), 8)
		if r.Fuel() != 5 || r.Spent()-was != 15 {
			t.Errorf("%d is left, %d was spent", r.Fuel(), r.Spent()-was)
		}
	}
	// A parameter and a word of the first one, and what the second one needs: a local, 2 high, a result.
	if cells, frames := r.Peak(); cells != 6 || frames != 2 {
		t.Errorf("%d cells, %d frames", cells, frames)
	}
}

// TestEnds is of the chapter's words: what may come behind a host's results.
func TestEnds(t *testing.T) {
	const s = "sig ()->(i32); sig (i32)->(); import a b 0; import a c 1; func 0; call 0; if; unreachable; end; loop; call 0; br_if 0; end; i32.const 5; end; func 0; call 2; call 1; call 3; end; func 0; loop; call 0; drop; br 0; end; unreachable; end"
	c := run.Config{Cells: 20, Frames: 5, Fuel: 30}
	r := machine(t, s, c)
	calls(t, r, hosted(0), 2)
	gives(t, r, trapped(api.Unreachable), 1)
	calls(t, r, hosted(0), 2)
	gives(t, r, hosted(0), 0)
	gives(t, r, hosted(0), 1)
	gives(t, r, hosted(0), 2)
	gives(t, r, done(5), 1<<32)
	if r.Fuel() != 30-13 {
		t.Errorf("%d is left", r.Fuel())
	}
	calls(t, r, hosted(0), 3)
	gives(t, r, trapped(api.Unreachable), 1)
	calls(t, r, hosted(0), 3)
	gives(t, r, hosted(0), 0)
	gives(t, r, hosted(1, 5), 0)
	gives(t, r, hosted(0))
	gives(t, r, trapped(api.Unreachable), 9)
	// No fuel.
	calls(t, r, hosted(0), 4)
	for range 9 {
		gives(t, r, hosted(0), 1)
	}
	gives(t, r, failed(api.ErrFuel), 1)
	if r.Fuel() != 0 {
		t.Errorf("%d is left", r.Fuel())
	}
	declines(t, r, api.ErrState, 1)
	// No frames.
	c.Frames = 3
	r = machine(t, s, c)
	calls(t, r, hosted(0), 3)
	gives(t, r, hosted(0), 0)
	gives(t, r, hosted(1, 5), 0)
	gives(t, r, hosted(0))
	gives(t, r, hosted(0), 0)
	gives(t, r, hosted(1, 5), 0)
	gives(t, r, failed(api.ErrDepth))
	if r.Waits() || r.Fault() != api.ErrDepth {
		t.Errorf("Waits %v, Fault %d", r.Waits(), r.Fault())
	}
}

// TestMeanwhile is of the rules: while a machine waits, its state may be asked, and others may run.
func TestMeanwhile(t *testing.T) {
	d := paged(t, lines(t, "sig ()->(i32); import a b 0; func 0; call 0; global.get 0; i32.add; i32.const 0; i32.load 0 0 0; i32.add; end; memory 1 1; global i32 var 0"), 10000, 1, 5)
	one, other := d.made(t, ample), d.made(t, ample)
	calls(t, one, hosted(0), 1)
	calls(t, other, hosted(0), 1)
	d.state.Set(0, 10)
	gives(t, other, done(13), 3)
	calls(t, other, hosted(0), 1)
	mem, _ := d.state.Memory(0)
	mem.Store(0, 0, []byte{100})
	gives(t, one, done(112), 2)
	gives(t, other, done(110), 0)
}
