package run_test

import (
	"bytes"
	"strings"
	"testing"

	"grommet/api"
	"grommet/run"
)

// down calls itself as often as it is told, with 9 below each call: 3 locals, a stack that is 3 high, a result: 7 cells, the next one 4 cells above.
const down = "sig (i32)->(i32); func 0; locals i64 i64; local.get 0; if i32; i32.const 9; local.get 0; i32.const 1; i32.sub; call 0; i32.add; else; i32.const 5; end; end"

// TestDepth is of the chapter's words, and of P22.2: how many cells and frames calls within others need, and one less of either.
func TestDepth(t *testing.T) {
	for n := range 7 {
		cells, frames := 4*n+7, n+1
		exact := run.Config{Cells: cells, Frames: frames, Fuel: 11*n + 5}
		r := machine(t, down, exact)
		calls(t, r, done(uint64(9*n+5)), 0, uint64(n))
		tells(t, r, telling{fuel: 0, spent: 11*n + 5, cells: cells, frames: frames})
		for range 3 {
			calls(t, r, done(uint64(9*n+5)), 0, uint64(n))
		}
		if n == 0 {
			continue
		}
		for _, less := range []run.Config{{cells - 1, frames, 200}, {cells, frames - 1, 200}, {cells - 1, frames - 1, 200}, {cells - 4, frames, 200}} {
			r := machine(t, down, less)
			calls(t, r, failed(api.ErrDepth), 0, uint64(n))
			// The call that failed didn't begin.
			tells(t, r, telling{fuel: 200 - 7*n, spent: 7 * n, cells: cells - 4, frames: n, fault: api.ErrDepth})
		}
	}
	for cells := range 6 {
		r := machine(t, down, run.Config{Cells: cells + 1, Frames: 1, Fuel: 20})
		calls(t, r, failed(api.ErrDepth), 0, 0)
		tells(t, r, telling{fuel: 20, fault: api.ErrDepth})
	}
}

// TestNeeds is of the chapter's words: what a call needs is what chapter 17 tells, more than what its run takes.
func TestNeeds(t *testing.T) {
	for _, c := range []struct {
		sig, body string
		cells     int
	}{
		{"()->()", "end", 0},
		{"()->()", "i32.const 1; drop; end", 1},
		{"()->(i32)", "i32.const 1; end", 2},
		{"(i32)->()", "end", 1},
		{"(i32,i64)->(i64,i32)", "local.get 1; local.get 0; end", 6},
		{"()->()", "locals i32 i32 i32; end", 3},
		{"()->()", "return; i32.const 1; i32.const 1; i32.const 1; unreachable; end", 3},
		{"()->(i64,i64)", "unreachable; end", 2},
	} {
		s := "sig " + c.sig + "; func 0; " + c.body
		args := make([]uint64, strings.Count(strings.Split(c.sig, "->")[0], "i"))
		want := done(make([]uint64, strings.Count(strings.Split(c.sig, "->")[1], "i"))...)
		for cells := 1; cells < 9; cells++ {
			r := machine(t, s, run.Config{Cells: cells, Frames: 1, Fuel: 9})
			o, e := r.Call(0, args...)
			if cells < c.cells {
				if !same(o, failed(api.ErrDepth)) || e != api.OK || r.Spent() != 0 {
					t.Errorf("%q in %d cells: %v, %d", s, cells, o, e)
				}
				continue
			}
			if o.Kind == run.Failed || len(o.Results) != len(want.Results) && o.Kind == run.Done || e != api.OK {
				t.Errorf("%q in %d cells: %v, %d", s, cells, o, e)
			}
			tells(t, r, telling{fuel: 9 - r.Spent(), spent: r.Spent(), cells: c.cells, frames: 1})
		}
	}
}

// TestArguments is of P22.1: more arguments than cells, of an own function and of an import.
func TestArguments(t *testing.T) {
	const s = "sig (i32,i32,i32)->(); import a b 0; func 0; end"
	for f := range 2 {
		for cells := 1; cells < 5; cells++ {
			r := machine(t, s, run.Config{Cells: cells, Frames: 1, Fuel: 9})
			switch {
			case cells < 3:
				calls(t, r, failed(api.ErrDepth), f, 1, 2, 3)
				tells(t, r, telling{fuel: 9, fault: api.ErrDepth})
			case f == 0:
				calls(t, r, hosted(0, 1, 2, 3), f, 1, 2, 3)
				tells(t, r, telling{fuel: 9, waits: true})
			default:
				calls(t, r, done(), f, 1, 2, 3)
			}
		}
	}
}

// TestPeak is of P22.2: the most of all calls, cells and frames each for itself.
func TestPeak(t *testing.T) {
	r := machine(t, "sig ()->(); func 0; locals i32 i32 i32 i32 i32; end; func 0; call 2; end; func 0; call 3; end; func 0; end; func 0; unreachable; end; func 0; i32.const 1; call 0; drop; call 2; end", run.Config{Cells: 10, Frames: 4, Fuel: 20})
	for _, c := range []struct {
		f             int
		want          run.Outcome
		cells, frames int
	}{
		{3, done(), 0, 1},
		{4, trapped(api.Unreachable), 0, 1},
		{1, done(), 0, 3},
		{0, done(), 5, 3},
		{5, done(), 6, 3},
		{1, done(), 6, 3},
	} {
		calls(t, r, c.want, c.f)
		if cells, frames := r.Peak(); cells != c.cells || frames != c.frames {
			t.Errorf("behind %d: %d cells, %d frames", c.f, cells, frames)
		}
	}
}

// TestCalls is of the chapter's words: arguments, results and locals of calls within others, and what stands below them.
func TestCalls(t *testing.T) {
	r := machine(t, "sig ()->(i32,i64,i32,i64); sig (i64)->(i32,i32,i64); sig (i32,i32)->(i32); sig ()->(); func 0; i32.const 4; i64.const 8; call 1; drop; drop; drop; i64.const 7; i32.const 10; i32.const 3; call 2; i64.const 9; end; func 1; locals i32 i32; local.get 1; local.get 2; i32.const 6; local.set 2; local.get 0; end; func 2; local.get 0; local.get 1; i32.sub; end", ample)
	for range 2 {
		calls(t, r, done(4, 7, 7, 9), 0)
		calls(t, r, done(0, 0, 8), 1, 8)
		calls(t, r, done(1<<32-7), 2, 3, 10)
	}
}

// TestDeep is of the chapter's words: behind a trap, however deep, all cells and frames are free.
func TestDeep(t *testing.T) {
	const s = "sig (i32)->(); func 0; local.get 0; if; local.get 0; i32.const 1; i32.sub; call 0; else; unreachable; end; end; func 0; local.get 0; if; local.get 0; i32.const 1; i32.sub; call 1; else; end; end"
	r := machine(t, s, run.Config{Cells: 18, Frames: 6, Fuel: 100})
	for range 3 {
		calls(t, r, trapped(api.Unreachable), 0, 5)
		calls(t, r, done(), 1, 5)
	}
	calls(t, r, failed(api.ErrDepth), 1, 6)
}

// TestIndirect is of the chapter's words: what stands in the table, nothing, beyond it, and functions of other signatures.
func TestIndirect(t *testing.T) {
	const s = "sig (i32)->(i32); sig ()->(i32); sig (i32)->(i32); sig (i32)->(i64); sig (i64)->(i32); sig (i32)->(); import a b 2; import a c 3; " +
		"func 0; local.get 0; local.get 0; call_indirect 0 0; end; func 0; local.get 0; i32.const 10; i32.add; end; func 2; local.get 0; i32.const 20; i32.add; end; " +
		"func 1; i32.const 5; end; func 4; i32.const 6; end; func 5; end; table 9; elem 0 3 4; elem 3 5 6 7 0 1"
	r := machine(t, s, ample)
	for place, want := range map[uint64]run.Outcome{
		0: done(10), 1: done(21), 2: trapped(api.Undefined), 3: trapped(api.Mismatch), 4: trapped(api.Mismatch), 5: trapped(api.Mismatch), 7: trapped(api.Mismatch),
		8: trapped(api.Undefined), 9: trapped(api.Undefined), 10: trapped(api.Undefined), 1 << 31: trapped(api.Undefined), 1<<32 - 1: trapped(api.Undefined),
	} {
		calls(t, r, want, 2, place)
		if spent := ample.Fuel - r.Fuel(); want.Kind == run.Trapped && spent != 3 || want.Kind == run.Done && spent != 8 {
			t.Errorf("%d: %d was spent", place, spent)
		}
	}
	calls(t, r, hosted(0, 6), 2, 6)
	gives(t, r, done(7), 7)
}

// TestIndirectNone is of the chapter's words: where nothing stands, nothing is called.
func TestIndirectNone(t *testing.T) {
	r := machine(t, "sig ()->(); func 0; i32.const 5; drop; end; func 0; i32.const 1; call_indirect 0 0; end; table 2; elem 0 0", ample)
	calls(t, r, trapped(api.Undefined), 1)
	tells(t, r, telling{fuel: ample.Fuel - 2, spent: 2, cells: 1, frames: 1})
}

// TestTableNone is of the chapter's words: a table without places.
func TestTableNone(t *testing.T) {
	calls(t, machine(t, "sig ()->(); func 0; i32.const 0; call_indirect 0 0; end; table 0", ample), trapped(api.Undefined), 0)
}

// TestSpoiltFrame is of the rules: frames that someone else has changed, whose function isn't there, or whose locals aren't where they were.
func TestSpoiltFrame(t *testing.T) {
	const s = "sig ()->(); import a b 0; func 0; call 0; end; func 0; locals i32 i32; call 1; block; br 0; end; i32.const 1; drop; end; func 0; i32.const 1; i32.const 1; i32.const 1; call 2; i32.div_u; i32.div_u; drop; end"
	// 16 cells, and 4 frames of 12 bytes behind them: the second one is of the function 2.
	const second = 128 + 12
	for _, c := range []struct {
		at   int
		v    uint64
		want run.Outcome
	}{
		{second, 2, done()},
		{second, 0, failed(api.ErrState)},
		{second, 4, failed(api.ErrState)},
		{second, 1 << 31, failed(api.ErrState)},
		{second + 4, 1, done()},
		{second + 4, 0, hosted(0)},
		{second + 4, 1 << 31, done()},
		{second + 8, 3, done()},
		{second + 8, 6, failed(api.ErrRange)},
		// Nothing is left to be divided: that is told, not what comes of dividing.
		{second + 8, 0, failed(api.ErrRange)},
	} {
		d := paged(t, lines(t, s), 192, 1, 1)
		r := d.made(t, run.Config{Cells: 16, Frames: 4, Fuel: 1000})
		calls(t, r, hosted(0), 3)
		d.arena.Put(c.at, 4, c.v)
		gives(t, r, c.want)
	}
}

// TestSpoilt is of the rules: whatever someone else puts into a machine's rooms, its calls end, and don't panic.
func TestSpoilt(t *testing.T) {
	const s = "sig ()->(i32); sig (i32)->(i32); import a b 0; func 0; i32.const 9; i32.const 3; call 2; i32.add; end; func 1; locals i32 i32; call 0; local.get 0; i32.add; end"
	kinds := map[int]int{}
	for at := range 192 {
		for _, v := range []byte{0, 1, 2, 3, 4, 5, 127, 128, 255} {
			for _, n := range []int{1, 4, 8, 40} {
				d := paged(t, lines(t, s), 192, 1, 1)
				r := d.made(t, run.Config{Cells: 16, Frames: 4, Fuel: 1000})
				calls(t, r, hosted(0), 1)
				d.arena.Copy(at, bytes.Repeat([]byte{v}, min(n, 192-at)))
				o, e := r.Give(5)
				if e != api.OK || o.Kind == run.Failed != (r.Fault() != api.OK) {
					t.Fatalf("%d at %d: %v, %d", v, at, o, e)
				}
				kinds[o.Kind]++
				r.Call(1)
				if e := r.Close(); e != api.OK || d.arena.Live() != 0 {
					t.Fatalf("Close: %d", e)
				}
			}
		}
	}
	if kinds[run.Failed] < 20 || kinds[run.Done] < 1000 {
		t.Errorf("but %v", kinds)
	}
}
