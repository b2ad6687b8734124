package run_test

import (
	"bytes"
	"testing"

	"grommet/api"
	"grommet/arena"
	"grommet/run"
)

// TestFull is of P22.1: an arena that misses a byte; nothing is taken, not for a time either.
func TestFull(t *testing.T) {
	m := lines(t, five)
	for _, cells := range []int{1, 2, 3, 64, 65, 1000} {
		for _, frames := range []int{1, 2, 3, 10, 11, 500} {
			rooms := arena.Class(8*cells) + arena.Class(12*frames)
			for _, ahead := range []int{0, 16, 48} {
				for less := range 40 {
					if less >= rooms {
						break
					}
					d := paged(t, m, ahead+rooms-less, 1, 1)
					for range ahead / 16 {
						d.arena.Take(16)
					}
					was, _ := d.arena.Bytes(0, d.arena.Size())
					r, e := run.New(d.state, d.arena, run.Config{Cells: cells, Frames: frames, Fuel: 9})
					if less == 0 {
						if r == nil || e != api.OK || d.arena.Live() != ahead+rooms {
							t.Errorf("New of %d, %d: %d; %d bytes are taken", cells, frames, e, d.arena.Live())
						}
						continue
					}
					if b, _ := d.arena.Bytes(0, d.arena.Size()); r != nil || e != api.ErrFull || d.arena.Live() != ahead || d.arena.Height() != ahead || !bytes.Equal(b, was) {
						t.Errorf("New of %d, %d, without %d: %v, %d; %d bytes are taken, %d cut off", cells, frames, less, r, e, d.arena.Live(), d.arena.Height())
					}
				}
			}
		}
	}
}

// TestAgain is of P22.1: rooms that were given back are taken, of either class, or both.
func TestAgain(t *testing.T) {
	for _, c := range []struct {
		cut, given []int
		left       int
		want       api.Errno
	}{
		{[]int{128, 64}, []int{0, 1}, 0, api.OK},
		{[]int{64, 128}, []int{0, 1}, 0, api.OK},
		{[]int{128, 64}, []int{0}, 64, api.OK},
		{[]int{128, 64}, []int{1}, 128, api.OK},
		{[]int{128, 64}, []int{0}, 63, api.ErrFull},
		{[]int{128, 64}, []int{1}, 127, api.ErrFull},
		{[]int{128, 64}, []int{0}, 0, api.ErrFull},
		{[]int{256, 32}, []int{0, 1}, 0, api.ErrFull},
		{[]int{256, 32, 256}, []int{0, 1, 2}, 191, api.ErrFull},
		{[]int{256, 32, 256}, []int{0, 1, 2}, 192, api.OK},
	} {
		d := paged(t, lines(t, five), 1000, 1, 1)
		size := c.left
		for _, n := range c.cut {
			size += n
		}
		d.arena = fresh(t, size)
		var at []int
		for _, n := range c.cut {
			x, _ := d.arena.Take(n)
			at = append(at, x)
		}
		for _, i := range c.given {
			d.arena.Give(at[i])
		}
		live := d.arena.Live()
		for range 3 {
			// 16 cells, and 5 frames.
			r, e := run.New(d.state, d.arena, run.Config{Cells: 16, Frames: 5, Fuel: 9})
			if e != c.want || r != nil != (e == api.OK) {
				t.Fatalf("%v, %d left: New: %d, not %d", c, c.left, e, c.want)
			}
			if e == api.OK {
				if d.arena.Live() != live+192 {
					t.Errorf("%d bytes are taken", d.arena.Live())
				}
				calls(t, r, done(5), 0)
				r.Close()
			}
			if d.arena.Live() != live {
				t.Errorf("%d bytes are taken, not %d", d.arena.Live(), live)
			}
		}
	}
}

// TestBeside is of P22.1, and of P6: a machine writes nothing beside its rooms, and several in one arena, of one state, don't meet.
func TestBeside(t *testing.T) {
	m := lines(t, down+"; func 0; local.get 0; global.set 0; global.get 0; end; global i32 var 3")
	d := paged(t, m, 1000, 1, 1)
	d.arena.Take(16)
	c := run.Config{Cells: 4*3 + 7, Frames: 4, Fuel: 60}
	one := d.made(t, c)
	between, _ := d.arena.Take(16)
	two := d.made(t, c)
	d.arena.Take(16)
	d.arena.Copy(0, bytes.Repeat([]byte{7}, 16))
	d.arena.Copy(between, bytes.Repeat([]byte{8}, 16))
	for n := range uint64(4) {
		calls(t, one, done(9*n+5), 0, n)
		calls(t, two, done(9*(3-n)+5), 0, 3-n)
		calls(t, one, done(n), 1, n)
		if v, e := d.state.Global(0); v != n || e != api.OK {
			t.Errorf("the global: %d, %d", v, e)
		}
	}
	calls(t, two, failed(api.ErrDepth), 0, 4)
	calls(t, one, done(14), 0, 1)
	for at, v := range map[int]byte{0: 7, between: 8} {
		if b, _ := d.arena.Bytes(at, 16); !bytes.Equal(b, bytes.Repeat([]byte{v}, 16)) {
			t.Errorf("the bytes at %d: %v", at, b)
		}
	}
	if b, _ := d.arena.Bytes(d.arena.Height(), 1000-d.arena.Height()); !bytes.Equal(b, bytes.Repeat([]byte{255}, len(b))) {
		t.Errorf("the bytes behind: %v", b)
	}
}
