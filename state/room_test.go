package state_test

import (
	"bytes"
	"slices"
	"testing"

	"grommet/api"
	"grommet/arena"
	"grommet/module"
	"grommet/pager"
	"grommet/state"
	"grommet/types"
)

// of is a module of so many globals and places.
func of(words, places int) *module.Module {
	m := module.Empty()
	m.Globals = slices.Repeat([]module.Global{{Type: api.I32, Value: 3}}, words)
	m.Table = places
	return m
}

// full holds that a New is ErrFull.
func full(t *testing.T, m *module.Module, a *arena.Arena, p *pager.Pager) {
	t.Helper()
	if s, trap, e := state.New(m, a, p, 0); s != nil || trap != api.NoTrap || e != api.ErrFull {
		t.Fatalf("New of %d globals, %d places: %v, %d, %d", len(m.Globals), m.Table, s, trap, e)
	}
}

// TestFull is of P21.1: an arena that misses a byte; nothing is taken, not for a time either.
func TestFull(t *testing.T) {
	for _, words := range []int{0, 2, 3, 50} {
		for _, places := range []int{-1, 4, 5, 8, 100, 1000} {
			for _, ahead := range []int{0, 16, 48} {
				size := ahead + arena.Class(8*words) + arena.Class(4*max(0, places))
				for less := 1; less < size-ahead; less = less*2 + 1 {
					d := paged(t, fresh(t, size-less), 1, 0)
					for range ahead / 16 {
						d.arena.Take(16)
					}
					was, _ := d.arena.Bytes(0, size-less)
					full(t, of(words, places), d.arena, d.pager)
					if b, _ := d.arena.Bytes(0, size-less); d.arena.Live() != ahead || d.arena.Height() != ahead || !bytes.Equal(b, was) {
						t.Errorf("of %d bytes: %d are taken, %d cut off", size-less, d.arena.Live(), d.arena.Height())
					}
				}
			}
		}
	}
}

// TestFullAhead is of P21.1: without rooms the pager isn't asked for anything, and no data is put, whether an element would fit or not.
func TestFullAhead(t *testing.T) {
	for _, c := range []string{"elem 0 1; data 0 0 x01", "elem 9; data 0 0 x01", "data 0 0 x01; data 0 65536 x01"} {
		d := paged(t, fresh(t, 31), 1, 5)
		full(t, lines(t, some+"table 2; memory 1 1; "+c), d.arena, d.pager)
		if d.pager.Resident() != 0 || d.store.Ops() != 0 || d.pager.Fault() != api.OK {
			t.Errorf("%q: %d pages, %d operations", c, d.pager.Resident(), d.store.Ops())
		}
	}
}

// holed is an arena in which rooms of these bytes were cut off, and some given back, in this order, with so much left behind them; all its bytes are 7.
func holed(t *testing.T, cut, given []int, left int) *arena.Arena {
	t.Helper()
	size := left
	for _, n := range cut {
		size += n
	}
	a := fresh(t, size)
	var at []int
	for _, n := range cut {
		x, e := a.Take(n)
		if e != api.OK {
			t.Fatalf("Take(%d): %d", n, e)
		}
		at = append(at, x)
	}
	for _, i := range given {
		a.Give(at[i])
	}
	a.Copy(0, bytes.Repeat([]byte{7}, size))
	return a
}

// taken is where rooms of so many bytes are taken, one by one, and how many aren't there.
func taken(a *arena.Arena, sizes ...int) ([]int, int) {
	var l []int
	missing := 0
	for _, n := range sizes {
		if at, e := a.Take(n); e == api.OK {
			l = append(l, at)
		} else {
			missing++
		}
	}
	return l, missing
}

// holes are rooms that were cut off, and those that were given back, the last one last.
var holes = []struct {
	cut, given []int
}{
	{nil, nil}, {[]int{16}, nil}, {[]int{16}, []int{0}}, {[]int{32}, []int{0}}, {[]int{64}, []int{0}}, {[]int{128}, []int{0}}, {[]int{256}, []int{0}},
	{[]int{16, 16}, []int{0, 1}}, {[]int{16, 16}, []int{1, 0}}, {[]int{32, 32}, []int{0, 1}}, {[]int{32, 32}, []int{1, 0}}, {[]int{64, 64}, []int{1, 0}}, {[]int{64, 64}, []int{0}},
	{[]int{16, 32}, []int{0, 1}}, {[]int{32, 16}, []int{0, 1}}, {[]int{16, 64}, []int{1, 0}}, {[]int{32, 64}, []int{0, 1}}, {[]int{16, 32}, []int{0}}, {[]int{16, 32}, []int{1}},
	{[]int{16, 16, 16}, []int{2, 0, 1}}, {[]int{32, 32, 32}, []int{1, 0, 2}}, {[]int{16, 128, 16}, []int{0, 1, 2}}, {[]int{32, 128, 64}, []int{1, 0}}, {[]int{128, 128, 32}, []int{1, 0}},
	{[]int{16, 16, 16, 16}, []int{3, 1}}, {[]int{16, 16, 16, 16}, []int{3, 1, 0, 2}}, {[]int{128, 256, 128, 16}, []int{0, 2, 1}}, {[]int{16, 32, 64, 128}, []int{0, 1, 2, 3}},
}

// each calls what tests an arena of each of the holes, with as much left as may matter, and modules of rooms of all classes up to 128.
func each(test func(made func(t *testing.T) *arena.Arena, m *module.Module, left int)) {
	for _, h := range holes {
		for k := range 30 {
			// About each multiple of the least class.
			left := max(0, 16*(k/3)+k%3-1)
			for _, words := range []int{0, 4, 8, 16} {
				for _, places := range []int{4, 8, 16, 32} {
					made := func(t *testing.T) *arena.Arena { return holed(t, h.cut, h.given, left) }
					test(made, of(words, places), left)
				}
			}
		}
	}
}

// unsure tells whether only taking tells that there are rooms, as one might be cut off: of each class either room could be, not both, and what was given back might be one of them.
func unsure(m *module.Module, left int) bool {
	one, other := arena.Class(8*len(m.Globals)), arena.Class(4*m.Table)
	return max(one, other) <= left && left < one+other && (min(one, other) > 16 || max(one, other) > 32)
}

// TestFullOrNot is of P21.1: there is a state just if both rooms are there, one after the other, whether cut off or given back; if not, the arena is as it was, and gives rooms in the order in which it had.
func TestFullOrNot(t *testing.T) {
	told := map[string]int{}
	p := paged(t, fresh(t, 0), 1, 0).pager
	each(func(made func(t *testing.T) *arena.Arena, m *module.Module, left int) {
		a, like, was := made(t), made(t), made(t)
		words, places := len(m.Globals), m.Table
		rooms, missing := taken(like, 8*words, 4*places)
		if missing > 0 {
			full(t, m, a, p)
			told[asWas(t, a, was, unsure(m, left))]++
			return
		}
		s, trap, e := state.New(m, a, p, 0)
		if s == nil || trap != api.NoTrap || e != api.OK {
			t.Fatalf("%d left: New of %d globals, %d places: %d, %d", left, words, places, trap, e)
		}
		told["made"]++
		stand(t, a, was, rooms, words, places)
		if a.Live() != like.Live() || a.Height() != like.Height() {
			t.Errorf("%d left: %d globals, %d places: %d are taken, %d cut off, not %d, %d", left, words, places, a.Live(), a.Height(), like.Live(), like.Height())
		}
		if s.Close(); a.Live() != was.Live() {
			t.Errorf("Close: %d are taken", a.Live())
		}
		if again, _ := taken(a, 8*words, 4*places); !slices.Equal(again, rooms) {
			t.Errorf("behind Close: rooms at %v, not %v", again, rooms)
		}
	})
	for k, least := range map[string]int{"as it was": 2000, "higher": 20, "made": 5000} {
		if told[k] < least {
			t.Errorf("%q: %d times", k, told[k])
		}
	}
}

// TestFailedRooms is of P21.1: where the rooms are there, but the pager fails, the arena is as it was, too.
func TestFailedRooms(t *testing.T) {
	told := map[string]int{}
	d := paged(t, fresh(t, 0), 1, 0)
	d.pager.Close()
	each(func(made func(t *testing.T) *arena.Arena, m *module.Module, left int) {
		m.Mems, m.Datas = []types.Limits{{Min: 1, Max: 1}}, []module.Data{{Bytes: []byte{1}}}
		if _, missing := taken(made(t), 8*len(m.Globals), 4*m.Table); missing > 0 {
			return
		}
		a := made(t)
		if s, trap, e := state.New(m, a, d.pager, 0); s != nil || trap != api.NoTrap || e != api.ErrState {
			t.Fatalf("New: %v, %d, %d", s, trap, e)
		}
		told[asWas(t, a, made(t), unsure(m, left))]++
	})
	for k, least := range map[string]int{"as it was": 5000, "higher": 20} {
		if told[k] < least {
			t.Errorf("%q: %d times", k, told[k])
		}
	}
}

// stand holds that rooms stand where they must, and that all bytes beside them are as they were.
func stand(t *testing.T, a, was *arena.Arena, rooms []int, words, places int) {
	t.Helper()
	want, _ := was.Bytes(0, was.Size())
	clear(want[rooms[0]:][:arena.Class(8*words)])
	clear(want[rooms[1]:][:arena.Class(4*places)])
	for i := range words {
		want[rooms[0]+8*i] = 3
	}
	if b, _ := a.Bytes(0, a.Size()); !bytes.Equal(b, want) {
		t.Errorf("rooms at %v: the bytes %v, not %v", rooms, b, want)
	}
}

// asWas holds that an arena is as one that wasn't asked; only that more was cut off may be allowed.
func asWas(t *testing.T, a, was *arena.Arena, higher bool) string {
	t.Helper()
	b, _ := a.Bytes(0, a.Size())
	want, _ := was.Bytes(0, was.Size())
	if a.Live() != was.Live() || !bytes.Equal(b, want) {
		t.Errorf("%d are taken, not %d; the bytes %v", a.Live(), was.Live(), b)
	}
	if higher && a.Height() > was.Height() {
		return "higher"
	}
	if a.Height() != was.Height() {
		t.Errorf("%d are cut off, not %d", a.Height(), was.Height())
	}
	for _, n := range []int{256, 16, 128, 16, 64, 32, 16, 64, 32, 16, 32, 16} {
		x, e := a.Take(n)
		if y, f := was.Take(n); x != y || e != f {
			t.Errorf("then a room of %d: %d, %d, not %d, %d", n, x, e, y, f)
		}
	}
	return "as it was"
}

// TestOneArena is of P21.1 and P21.2: the pager's frames, and several states, in one arena, in which nothing is left.
func TestOneArena(t *testing.T) {
	d := paged(t, fresh(t, 64+3*32), 1, 3)
	p, e := pager.New(d.arena, d.store, 1)
	if e != api.OK {
		t.Fatalf("pager.New: %d", e)
	}
	d.pager = p
	var all []*state.State
	for i := range 3 {
		s, trap := d.begun(t, "memory 1 1; global i64 var 7; data 0 3 x0506", i)
		if trap != api.NoTrap {
			t.Fatalf("New: %d", trap)
		}
		s.Set(0, uint64(i))
		memory(t, s, 0).Store(4, 0, []byte{byte(i)})
		all = append(all, s)
		if i < 2 {
			full(t, of(8, 4), d.arena, p)
			full(t, of(0, 16), d.arena, p)
		}
	}
	full(t, of(0, 0), d.arena, p)
	for i, s := range all {
		globals(t, s, uint64(i))
		loads(t, s, 0, 2, 0, 5, byte(i), 0)
		if e := s.Close(); e != api.OK || d.arena.Live() != 64+32*(2-i) {
			t.Errorf("Close: %d; %d bytes are taken", e, d.arena.Live())
		}
	}
	if b, e := p.Read(2, 0, 0, 64); e != api.OK || !bytes.Equal(b, make([]byte, 64)) || d.store.Used() != 0 {
		t.Errorf("Read: %v, %d; %d blocks are in use", b, e, d.store.Used())
	}
}
