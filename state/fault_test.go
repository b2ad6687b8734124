package state_test

import (
	"bytes"
	"testing"

	"grommet/api"
	"grommet/arena"
	"grommet/state"
)

// filled is a module whose data needs more pages than a pager has frames, some of them twice.
const filled = some + "table 4; memory 1 2; memory 2 2; global i32 var 5; elem 1 2; data 0 0 x01; data 1 60 x0203040506; data 0 64 x07; data 1 131071 x08; data 0 0 x09; data 1 200 x"

// failed holds that a New answers an error of the pager, that nothing is taken, and that the arena is as it was.
func failed(t *testing.T, d device, was *arena.Arena, lined string, number int, want api.Errno) {
	t.Helper()
	s, trap, e := state.New(lines(t, lined), d.arena, d.pager, number)
	if s != nil || trap != api.NoTrap || e != want {
		t.Fatalf("New: %v, %d, %d, not %d", s, trap, e, want)
	}
	asWas(t, d.arena, was, false)
}

// TestFaultAtEach is of P21.1: whichever operation fails, the pager's error is the answer, and nothing is taken.
func TestFaultAtEach(t *testing.T) {
	d := paged(t, fresh(t, 64), 1, 20)
	s := d.made(t, filled)
	ops := d.store.Ops()
	if ops < 8 {
		t.Fatalf("%d operations", ops)
	}
	loads(t, s, 1, 60, 2, 3, 4, 5, 6)
	for n := range ops + 1 {
		for _, h := range []struct {
			given []int
			left  int
		}{{nil, 32}, {nil, 40}, {[]int{0}, 16}, {[]int{2}, 20}, {[]int{1}, 32}, {[]int{0, 2}, 0}, {[]int{2, 0}, 5}, {[]int{0, 1, 2}, 31}} {
			// The rooms may be cut off, or have been given back, or both.
			cut := []int{16, 32, 16}
			d := paged(t, holed(t, cut, h.given, h.left), 1, 20)
			d.store.FailAt(n)
			if n < ops {
				failed(t, d, holed(t, cut, h.given, h.left), filled, 0, api.ErrFault)
				if d.pager.Fault() != api.ErrFault || d.store.Ops() != n+1 {
					t.Errorf("%d operations, Fault %d", d.store.Ops(), d.pager.Fault())
				}
			} else if s, _, e := state.New(lines(t, filled), d.arena, d.pager, 0); s == nil || e != api.OK || d.store.Ops() != ops {
				t.Errorf("New: %d, %d operations", e, d.store.Ops())
			}
		}
	}
}

// TestNoBlocks is of P21.1: a store that has too few blocks.
func TestNoBlocks(t *testing.T) {
	d := paged(t, fresh(t, 48), 2, 9)
	d.made(t, filled)
	enough := d.store.Peak()
	if enough < 3 {
		t.Fatalf("%d blocks are enough", enough)
	}
	for blocks := range enough + 1 {
		d := paged(t, fresh(t, 48), 2, blocks)
		if blocks < enough {
			failed(t, d, fresh(t, 48), filled, 0, api.ErrFull)
			if d.pager.Fault() != api.ErrFull {
				t.Errorf("%d blocks: Fault %d", blocks, d.pager.Fault())
			}
		} else {
			d.made(t, filled)
		}
	}
}

// TestNoPager is of P21.1: a pager that is closed, or broken, is told by what asks it: data, of some bytes, that isn't beyond.
func TestNoPager(t *testing.T) {
	for _, c := range []struct {
		lines string
		trap  api.Trap
		e     api.Errno
	}{
		{"", 0, api.OK},
		{"memory 1 1", 0, api.OK},
		{"memory 1 1; data 0 65536 x", 0, api.OK},
		{"memory 1 1; data 0 65536 x01", api.Bounds, api.OK},
		{"memory 1 1; data 0 65536 x01; data 0 0 x01", api.Bounds, api.OK},
		{"table 1; memory 1 1; elem 2; data 0 0 x01", api.Undefined, api.OK},
		{"memory 1 1; data 0 0 x01", 0, api.ErrState},
		{"memory 1 1; data 0 0 x00", 0, api.ErrState},
		{"memory 1 1; data 0 0 x01; data 0 65536 x01", 0, api.ErrState},
		{"table 1; memory 1 1; elem 1; data 0 0 x01", 0, api.ErrState},
	} {
		for _, breaks := range []func(d device){closing, breaking} {
			d := paged(t, fresh(t, 64), 1, 9)
			breaks(d)
			if c.e != api.OK {
				failed(t, d, fresh(t, 64), c.lines, 0, c.e)
			} else if _, trap := d.begun(t, c.lines, 0); trap != c.trap || d.arena.Live() != 32 {
				t.Errorf("%q: %d, not %d; %d bytes are taken", c.lines, trap, c.trap, d.arena.Live())
			}
		}
	}
}

// closing closes a device's pager.
func closing(d device) {
	d.pager.Close()
}

// breaking breaks a device's pager, whose pages are let go by it.
func breaking(d device) {
	d.store.FailAt(d.store.Ops())
	for i := range 9 {
		d.pager.Write(most+9, i, 0, []byte{1})
	}
	d.store.FailAt(-1)
}

// TestClose is of P21.2: rooms are given back, the memories' bytes are 0, and no others; what is closed answers nothing.
func TestClose(t *testing.T) {
	for frames := 1; frames < 6; frames++ {
		d := paged(t, fresh(t, 96), frames, 50)
		beside, _ := d.begun(t, "memory 1 1; data 0 0 x11; data 0 640 x12", 4)
		s, _ := d.begun(t, filled, 5)
		behind, _ := d.begun(t, "memory 1 1; data 0 0 x21; data 0 640 x22", 7)
		m := memory(t, s, 0)
		m.Grow(1)
		m.Store(131000, 0, []byte{1, 2, 3})
		m.Store(700, 0, []byte{9})
		if e := s.Close(); e != api.OK || d.arena.Live() != 64 || d.arena.Height() != 96 {
			t.Errorf("Close: %d; %d bytes are taken", e, d.arena.Live())
		}
		shut(t, s)
		for mem := 5; mem < 7; mem++ {
			for i := range 2 * page / 64 {
				if b, e := d.pager.Read(mem, i, 0, 64); e != api.OK || !bytes.Equal(b, make([]byte, 64)) {
					t.Fatalf("%d frames: page %d of memory %d: %v, %d", frames, i, mem, b, e)
				}
			}
		}
		for i, s := range []*state.State{beside, behind} {
			loads(t, s, 0, 0, byte(16*i+17), 0)
			loads(t, s, 0, 640, byte(16*i+18), 0)
		}
		if d.store.Used() > 4 {
			t.Errorf("%d blocks are in use", d.store.Used())
		}
		// A fresh one of that number has its own bytes alone.
		s, _ = d.begun(t, "memory 3 3; data 0 1 x31", 5)
		loads(t, s, 0, 0, 0, 0x31, 0)
		loads(t, s, 0, 131000, 0, 0, 0)
		if d.arena.Live() != 96 || d.arena.Height() != 96 {
			t.Errorf("%d bytes are taken, %d cut off", d.arena.Live(), d.arena.Height())
		}
	}
}

// TestCloseNone is of P21.2: one without memories doesn't ask the pager.
func TestCloseNone(t *testing.T) {
	for _, breaks := range []func(d device){closing, breaking} {
		d := paged(t, fresh(t, 64), 1, 9)
		s := d.made(t, "table 4; global i32 var 1")
		breaks(d)
		if e := s.Close(); e != api.OK || d.arena.Live() != 0 {
			t.Errorf("Close: %d; %d bytes are taken", e, d.arena.Live())
		}
		shut(t, s)
	}
}

// TestCloseFault is of P21.2: the pager's error is the answer, whichever operation fails; rooms are given back, and it is closed, all the same.
func TestCloseFault(t *testing.T) {
	d := paged(t, fresh(t, 48), 1, 20)
	s := d.made(t, filled)
	begun := d.store.Ops()
	if e := s.Close(); e != api.OK {
		t.Fatalf("Close: %d", e)
	}
	ops := d.store.Ops() - begun
	if ops < 3 {
		t.Fatalf("%d operations", ops)
	}
	for n := range ops + 1 {
		d := paged(t, fresh(t, 48), 1, 20)
		s := d.made(t, filled)
		d.store.FailAt(begun + n)
		want, did := api.ErrFault, begun+n+1
		if n == ops {
			want, did = api.OK, begun+ops
		}
		if e := s.Close(); e != want || d.arena.Live() != 0 || d.pager.Fault() != want || d.store.Ops() != did {
			t.Errorf("Close, where %d fails: %d; %d bytes are taken; Fault %d, %d operations", n, e, d.arena.Live(), d.pager.Fault(), d.store.Ops())
		}
		shut(t, s)
	}
	for i, breaks := range []func(d device){closing, breaking} {
		d := paged(t, fresh(t, 48), 1, 20)
		s := d.made(t, filled)
		breaks(d)
		if e := s.Close(); e != api.ErrState || d.arena.Live() != 0 {
			t.Errorf("%d: Close: %d; %d bytes are taken", i, e, d.arena.Live())
		}
		shut(t, s)
	}
}

// TestBroken is of P21.1 and P21.2: where the pager breaks later on, what isn't in it stays as it was.
func TestBroken(t *testing.T) {
	d := roomy(t)
	s := d.made(t, filled)
	breaking(d)
	if b, trap, e := memory(t, s, 0).Load(0, 0, 1); b != nil || trap != api.NoTrap || e != api.ErrState {
		t.Errorf("Load: %v, %d, %d", b, trap, e)
	}
	if e := s.Set(0, 6); e != api.OK {
		t.Errorf("Set: %d", e)
	}
	globals(t, s, 6)
	table(t, s, -1, 2, -1, -1)
	pages(t, s, 1, 2)
}
