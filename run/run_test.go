package run_test

import (
	"bytes"
	"math"
	"reflect"
	"slices"
	"strings"
	"testing"

	"grommet/api"
	"grommet/arena"
	"grommet/block"
	"grommet/module"
	"grommet/pager"
	"grommet/run"
	"grommet/state"
	"grommet/text"
)

// outside is numbers below 0, and very great ones.
var outside = []int{math.MinInt, math.MinInt + 1, math.MinInt / 8, math.MinInt32, -65536, -2, -1, math.MaxInt32, math.MaxInt / 12, math.MaxInt/12 + 1, math.MaxInt/8 + 1, math.MaxInt - 1, math.MaxInt}

// ample is more than these tests' calls need.
var ample = run.Config{Cells: 100, Frames: 20, Fuel: 1000}

// device is an arena, a pager, in an arena of its own, with its store, and a state, in an arena of its own, too.
type device struct {
	arena *arena.Arena
	pager *pager.Pager
	store *block.Store
	state *state.State
}

// fresh is an arena of so many bytes, each of which was 255 ahead of a room being taken.
func fresh(t *testing.T, size int) *arena.Arena {
	t.Helper()
	a, e := arena.New(size)
	if e != api.OK {
		t.Fatalf("arena.New(%d): %d", size, e)
	}
	a.Copy(0, bytes.Repeat([]byte{255}, size))
	return a
}

// lines is the module of lines, with a ; between.
func lines(t *testing.T, s string) *module.Module {
	t.Helper()
	m, place, e := text.Read(strings.Split(s, "; "))
	if e != api.OK {
		t.Fatalf("Read of %q: %d, %d", s, place, e)
	}
	return m
}

// paged is a device of a module, with an arena of so many bytes, and a pager of so many frames of 64 bytes, and blocks.
func paged(t *testing.T, m *module.Module, size, frames, blocks int) device {
	t.Helper()
	store, e := block.New(64, blocks)
	if e != api.OK {
		t.Fatalf("block.New: %d", e)
	}
	p, e := pager.New(fresh(t, 64*frames), store, frames)
	if e != api.OK {
		t.Fatalf("pager.New: %d", e)
	}
	s, trap, e := state.New(m, fresh(t, 10000), p, 0)
	if trap != api.NoTrap || e != api.OK {
		t.Fatalf("state.New: %d, %d", trap, e)
	}
	return device{fresh(t, size), p, store, s}
}

// made is a machine of a device.
func (d device) made(t *testing.T, c run.Config) *run.Machine {
	t.Helper()
	r, e := run.New(d.state, d.arena, c)
	if e != api.OK {
		t.Fatalf("New of %v: %d", c, e)
	}
	return r
}

// machine is one of a module's lines, with a device that has room for what these tests do.
func machine(t *testing.T, s string, c run.Config) *run.Machine {
	t.Helper()
	return paged(t, lines(t, s), 200000, 3, 500).made(t, c)
}

// The outcomes.

func done(l ...uint64) run.Outcome {
	return run.Outcome{Kind: run.Done, Results: l}
}

func trapped(trap api.Trap) run.Outcome {
	return run.Outcome{Kind: run.Trapped, Trap: trap}
}

func hosted(f int, given ...uint64) run.Outcome {
	return run.Outcome{Kind: run.Host, Import: f, Results: given}
}

func failed(e api.Errno) run.Outcome {
	return run.Outcome{Kind: run.Failed, Err: e}
}

// same tells whether two outcomes are the same in all their parts.
func same(a, b run.Outcome) bool {
	if !slices.Equal(a.Results, b.Results) {
		return false
	}
	a.Results, b.Results = nil, nil
	return reflect.DeepEqual(a, b)
}

// calls holds a call's outcome.
func calls(t *testing.T, r *run.Machine, want run.Outcome, f int, args ...uint64) {
	t.Helper()
	if o, e := r.Call(f, args...); !same(o, want) || e != api.OK {
		t.Fatalf("Call(%d, %v): %v, %d, not %v", f, args, o, e, want)
	}
	after(t, r, want)
}

// gives holds the outcome of a host's results.
func gives(t *testing.T, r *run.Machine, want run.Outcome, results ...uint64) {
	t.Helper()
	if o, e := r.Give(results...); !same(o, want) || e != api.OK {
		t.Fatalf("Give(%v): %v, %d, not %v", results, o, e, want)
	}
	after(t, r, want)
}

// after holds what a machine tells behind an outcome.
func after(t *testing.T, r *run.Machine, o run.Outcome) {
	t.Helper()
	if r.Waits() != (o.Kind == run.Host) || r.Fault() != o.Err {
		t.Fatalf("behind %v: Waits %v, Fault %d", o, r.Waits(), r.Fault())
	}
}

// refuses holds that a machine answers an error, and that nothing else changes by that.
func refuses(t *testing.T, r *run.Machine, want api.Errno, f int, args ...uint64) {
	t.Helper()
	was := told(r)
	if o, e := r.Call(f, args...); !same(o, run.Outcome{}) || e != want {
		t.Fatalf("Call(%d, %v): %v, %d, not %d", f, args, o, e, want)
	}
	if told(r) != was {
		t.Fatalf("behind an error: %v, not %v", told(r), was)
	}
}

// declines is of Give what refuses is of Call.
func declines(t *testing.T, r *run.Machine, want api.Errno, results ...uint64) {
	t.Helper()
	was := told(r)
	if o, e := r.Give(results...); !same(o, run.Outcome{}) || e != want {
		t.Fatalf("Give(%v): %v, %d, not %d", results, o, e, want)
	}
	if told(r) != was {
		t.Fatalf("behind an error: %v, not %v", told(r), was)
	}
}

// telling is all that a machine tells.
type telling struct {
	fuel, spent, cells, frames int
	waits                      bool
	fault                      api.Errno
}

func told(r *run.Machine) telling {
	cells, frames := r.Peak()
	return telling{r.Fuel(), r.Spent(), cells, frames, r.Waits(), r.Fault()}
}

// tells holds all that a machine tells.
func tells(t *testing.T, r *run.Machine, want telling) {
	t.Helper()
	if told(r) != want {
		t.Fatalf("it tells %v, not %v", told(r), want)
	}
}

// five is a function that gives 5, and one that gives its argument.
const five = "sig ()->(i32); sig (i64)->(i64); func 0; i32.const 2; i32.const 3; i32.add; end; func 1; local.get 0; end"

// TestKinds is of the kinds' numbers.
func TestKinds(t *testing.T) {
	if run.Done != 0 || run.Trapped != 1 || run.Host != 2 || run.Failed != 3 {
		t.Error("other numbers")
	}
}

// TestExample is of the chapter's example.
func TestExample(t *testing.T) {
	r := machine(t, five, run.Config{Cells: 3, Frames: 1, Fuel: 4})
	tells(t, r, telling{})
	calls(t, r, done(5), 0)
	tells(t, r, telling{fuel: 0, spent: 4, cells: 3, frames: 1})
	calls(t, r, done(9), 1, 9)
	tells(t, r, telling{fuel: 2, spent: 6, cells: 3, frames: 1})
}

// TestNew is of P22.1: the numbers at their edges, and the order of the errors.
func TestNew(t *testing.T) {
	d := paged(t, lines(t, five), 1<<20, 1, 1)
	for _, c := range []struct {
		config run.Config
		want   api.Errno
	}{
		{run.Config{1, 1, 0}, api.OK},
		{run.Config{1, 1, 10000000}, api.OK},
		{run.Config{65536, 10000, 10000000}, api.OK},
		{run.Config{0, 1, 0}, api.ErrArg},
		{run.Config{1, 0, 0}, api.ErrArg},
		{run.Config{1, 1, -1}, api.ErrArg},
		{run.Config{1, 1, 10000001}, api.ErrArg},
		{run.Config{65537, 1, 0}, api.ErrArg},
		{run.Config{1, 10001, 0}, api.ErrArg},
		{run.Config{65536, 65536, 0}, api.ErrArg},
		{run.Config{}, api.ErrArg},
	} {
		r, e := run.New(d.state, d.arena, c.config)
		if e != c.want || r != nil != (e == api.OK) {
			t.Errorf("New of %v: %v, %d, not %d", c.config, r, e, c.want)
		}
		if e == api.OK {
			calls(t, d.made(t, ample), done(5), 0)
			r.Close()
		}
	}
	for _, n := range outside {
		for _, c := range []run.Config{{n, 1, 1}, {1, n, 1}, {1, 1, n}, {n, n, n}} {
			if r, e := run.New(d.state, d.arena, c); r != nil || e != api.ErrArg {
				t.Errorf("New of %v: %v, %d", c, r, e)
			}
		}
	}
}

// TestNewOrder is of P22.1: what is wrong in all pairs.
func TestNewOrder(t *testing.T) {
	d := paged(t, lines(t, five), 1000, 1, 1)
	shut := paged(t, lines(t, five), 1000, 1, 1)
	shut.state.Close()
	wrong, right, big := run.Config{Cells: 1, Frames: 1, Fuel: -1}, run.Config{Cells: 1, Frames: 1}, run.Config{Cells: 65536, Frames: 1}
	for _, c := range []struct {
		s    *state.State
		a    *arena.Arena
		c    run.Config
		want api.Errno
	}{
		{nil, nil, right, api.ErrState},
		{nil, nil, wrong, api.ErrState},
		{nil, d.arena, right, api.ErrState},
		{nil, d.arena, wrong, api.ErrState},
		{nil, d.arena, big, api.ErrState},
		{d.state, nil, right, api.ErrState},
		{d.state, nil, wrong, api.ErrState},
		{shut.state, d.arena, right, api.ErrState},
		{shut.state, d.arena, wrong, api.ErrState},
		{shut.state, d.arena, big, api.ErrState},
		{shut.state, nil, right, api.ErrState},
		{d.state, d.arena, wrong, api.ErrArg},
		{d.state, fresh(t, 0), wrong, api.ErrArg},
		{d.state, fresh(t, 0), right, api.ErrFull},
		{d.state, d.arena, big, api.ErrFull},
		{d.state, d.arena, right, api.OK},
	} {
		r, e := run.New(c.s, c.a, c.c)
		if e != c.want || r != nil != (e == api.OK) {
			t.Errorf("New: %v, %d, not %d", r, e, c.want)
		}
		if e != api.OK && d.arena.Live()+d.arena.Height() != 0 {
			t.Errorf("%d bytes are taken", d.arena.Live())
		}
	}
	if d.arena.Live() != 32 {
		t.Errorf("%d bytes are taken", d.arena.Live())
	}
}

// TestNil is of P22.2.
func TestNil(t *testing.T) {
	var r *run.Machine
	tells(t, r, telling{fault: api.ErrState})
	for _, f := range append(outside, 0, 1) {
		refuses(t, r, api.ErrState, f)
		refuses(t, r, api.ErrState, f, 1, 2)
	}
	declines(t, r, api.ErrState)
	declines(t, r, api.ErrState, 1)
	if e := r.Close(); e != api.ErrState {
		t.Errorf("Close: %d", e)
	}
}

// TestCall is of P22.1: which functions there are, and the number of arguments.
func TestCall(t *testing.T) {
	r := machine(t, five, ample)
	for _, f := range append(outside, 2, 3) {
		refuses(t, r, api.ErrRange, f)
		refuses(t, r, api.ErrRange, f, 1)
	}
	refuses(t, r, api.ErrArg, 0, 1)
	refuses(t, r, api.ErrArg, 0, make([]uint64, 2000)...)
	refuses(t, r, api.ErrArg, 1)
	refuses(t, r, api.ErrArg, 1, 1, 2)
	declines(t, r, api.ErrState)
	tells(t, r, telling{})
	calls(t, r, done(5), 0)
	was := told(r)
	refuses(t, r, api.ErrArg, 1)
	refuses(t, r, api.ErrRange, -1)
	tells(t, r, was)
	calls(t, r, done(7), 1, 7)
}

// TestCut is of P22.1: of an I32 the low bits count, of an I64 all; what is handed in stays as it was.
func TestCut(t *testing.T) {
	r := machine(t, "sig (i32,i64,i32)->(i32,i64,i32); import a b 0; func 0; local.get 0; local.get 1; local.get 2; end; func 0; local.get 0; local.get 1; local.get 2; call 0; end", ample)
	args := []uint64{1<<32 + 5, 1<<63 + 6, math.MaxUint64, 99}[:3]
	was := slices.Clone(args[:4])
	calls(t, r, done(5, 1<<63+6, math.MaxUint32), 1, args...)
	for _, f := range []int{0, 2} {
		calls(t, r, hosted(0, 5, 1<<63+6, math.MaxUint32), f, args...)
		gives(t, r, done(5, 1<<63+6, math.MaxUint32), args...)
	}
	if !slices.Equal(args[:4], was) {
		t.Errorf("what was handed in is %v now", args[:4])
	}
}

// TestAnew is of the rules: what is handed in isn't kept, what is answered is new.
func TestAnew(t *testing.T) {
	r := machine(t, "sig (i64,i64)->(i64,i64); import a b 0; func 0; local.get 0; local.get 1; call 0; drop; local.get 1; end", ample)
	args := []uint64{1, 2}
	o, _ := r.Call(1, args...)
	args[0], args[1] = 8, 9
	if !same(o, hosted(0, 1, 2)) {
		t.Errorf("Call: %v", o)
	}
	o.Results[0], o.Results[1] = 8, 9
	results := []uint64{3, 4}
	o, _ = r.Give(results...)
	results[0] = 8
	if !same(o, done(3, 2)) {
		t.Errorf("Give: %v", o)
	}
	o.Results[0] = 8
	r.Call(0, 1, 2)
	results = []uint64{3, 4}
	o, _ = r.Give(results...)
	results[0] = 8
	if !same(o, done(3, 4)) {
		t.Errorf("Give: %v", o)
	}
	o.Results[1] = 8
	if !slices.Equal(results, []uint64{8, 4}) {
		t.Errorf("what was handed in is %v now", results)
	}
	calls(t, r, hosted(0, 1, 2), 1, 1, 2)
}

// TestBroken is of P22.1: one that is broken answers nothing any more, but tells by what.
func TestBroken(t *testing.T) {
	const s = five + "; func 0; loop; br 0; end; unreachable; end"
	r := machine(t, s, run.Config{Cells: 5, Frames: 1, Fuel: 9})
	calls(t, r, done(5), 0)
	calls(t, r, failed(api.ErrFuel), 2)
	want := telling{fuel: 0, spent: 13, cells: 3, frames: 1, fault: api.ErrFuel}
	tells(t, r, want)
	for f := range 5 {
		refuses(t, r, api.ErrState, f-1)
		refuses(t, r, api.ErrState, f-1, 1)
		declines(t, r, api.ErrState)
	}
	tells(t, r, want)
	if e := r.Close(); e != api.OK {
		t.Errorf("Close: %d", e)
	}
	tells(t, r, want)
}

// TestClose is of P22.2: rooms are given back, of one that is broken, or waits, too; what it came to is told on.
func TestClose(t *testing.T) {
	const s = "sig ()->(i32); import a b 0; func 0; i32.const 2; end; func 0; call 0; end; func 0; unreachable; end; func 0; call 4; end"
	for _, c := range []struct {
		f    int
		want telling
	}{
		{-1, telling{}},
		{0, telling{fuel: 7, waits: true}},
		{1, telling{fuel: 5, spent: 2, cells: 2, frames: 1}},
		{2, telling{fuel: 6, spent: 1, cells: 2, frames: 1, waits: true}},
		{3, telling{fuel: 6, spent: 1, cells: 1, frames: 1}},
		{4, telling{fuel: 5, spent: 2, cells: 2, frames: 2, fault: api.ErrDepth}},
	} {
		d := paged(t, lines(t, s), 64, 1, 1)
		r := d.made(t, run.Config{Cells: 4, Frames: 2, Fuel: 7})
		if d.arena.Live() != 64 {
			t.Errorf("%d bytes are taken", d.arena.Live())
		}
		r.Call(c.f)
		tells(t, r, c.want)
		if e := r.Close(); e != api.OK || d.arena.Live() != 0 || d.arena.Height() != 64 {
			t.Errorf("Close: %d; %d bytes are taken", e, d.arena.Live())
		}
		c.want.waits = false
		tells(t, r, c.want)
		if e := r.Close(); e != api.ErrState {
			t.Errorf("Close again: %d", e)
		}
		refuses(t, r, api.ErrState, 1)
		refuses(t, r, api.ErrState, -1)
		declines(t, r, api.ErrState)
		declines(t, r, api.ErrState, 1)
		// The rooms are there for the next one, and it doesn't meet what the last one left.
		r = d.made(t, run.Config{Cells: 4, Frames: 2, Fuel: 7})
		tells(t, r, telling{})
		calls(t, r, done(2), 1)
	}
}

// TestClosedState is of P22.1, of a state that is closed while a machine is not: it can't be asked any more.
func TestClosedState(t *testing.T) {
	d := paged(t, lines(t, "sig ()->(i32); import a b 0; func 0; call 0; end"), 10000, 1, 1)
	r, waits := d.made(t, ample), d.made(t, ample)
	calls(t, waits, hosted(0), 1)
	d.state.Close()
	for f := range 4 {
		refuses(t, r, api.ErrState, f-1)
		declines(t, r, api.ErrState)
		refuses(t, waits, api.ErrState, f-1)
		declines(t, waits, api.ErrState, 1)
	}
	if r.Close() != api.OK || waits.Close() != api.OK || d.arena.Live() != 0 {
		t.Errorf("%d bytes are taken", d.arena.Live())
	}
}

// TestSpent is of the chapter's way: what was spent may be asked while a call is run.
func TestSpent(t *testing.T) {
	r := machine(t, "sig ()->(); func 0; loop; br 0; end; end", run.Config{Cells: 1, Frames: 1, Fuel: 300000})
	ends := make(chan bool)
	go func() {
		r.Call(0)
		close(ends)
	}()
	last := 0
	for over := false; !over; {
		select {
		case <-ends:
			over = true
		default:
		}
		n := r.Spent()
		if n < last || n > 300000 {
			t.Fatalf("%d was spent, behind %d", n, last)
		}
		last = n
	}
	if last != 300000 {
		t.Errorf("%d was spent", last)
	}
}
