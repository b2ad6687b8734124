package state_test

import (
	"bytes"
	"math"
	"slices"
	"strings"
	"testing"

	"grommet/api"
	"grommet/arena"
	"grommet/block"
	"grommet/module"
	"grommet/pager"
	"grommet/space"
	"grommet/state"
	"grommet/text"
)

const (
	page = api.PageSize
	most = 1 << 30 // the greatest number of a first memory
)

// outside is numbers below 0, and very great ones.
var outside = []int{math.MinInt, math.MinInt + 1, math.MinInt / 8, math.MinInt32, -65536, -2, -1, math.MaxInt32, math.MaxInt / 8, math.MaxInt/8 + 1, math.MaxInt/4 + 1, math.MaxInt - 1, math.MaxInt}

// device is an arena, and a pager, in an arena of its own, with its store.
type device struct {
	arena *arena.Arena
	pager *pager.Pager
	store *block.Store
}

// fresh is an arena of so many bytes, each of which was 255 ahead of a room being taken.
func fresh(t *testing.T, size int) *arena.Arena {
	t.Helper()
	a, e := arena.New(size)
	if e != api.OK {
		t.Fatalf("arena.New(%d): %d", size, e)
	}
	a.Copy(0, bytes.Repeat([]byte{255}, size))
	return a
}

// paged is a device of an arena, whose pager has so many frames of 64 bytes, and blocks.
func paged(t *testing.T, a *arena.Arena, frames, blocks int) device {
	t.Helper()
	store, e := block.New(64, blocks)
	if e != api.OK {
		t.Fatalf("block.New: %d", e)
	}
	p, e := pager.New(fresh(t, 64*frames), store, frames)
	if e != api.OK {
		t.Fatalf("pager.New: %d", e)
	}
	return device{a, p, store}
}

// roomy is a device that has room for what these tests put.
func roomy(t *testing.T) device {
	t.Helper()
	return paged(t, fresh(t, 10000), 3, 500)
}

// lines is the module of lines, with a ; between.
func lines(t *testing.T, s string) *module.Module {
	t.Helper()
	l := strings.Split(s, "; ")
	if s == "" {
		l = nil
	}
	m, place, e := text.Read(l)
	if e != api.OK {
		t.Fatalf("Read of %q: %d, %d", s, place, e)
	}
	return m
}

// some is 4 functions that do nothing.
const some = "sig ()->(); func 0; end; func 0; end; func 0; end; func 0; end; "

// begun is the state of a module's lines, and the trap of its beginning.
func (d device) begun(t *testing.T, s string, number int) (*state.State, api.Trap) {
	t.Helper()
	x, trap, e := state.New(lines(t, s), d.arena, d.pager, number)
	if x == nil || e != api.OK {
		t.Fatalf("New of %q: %v, %d, %d", s, x, trap, e)
	}
	return x, trap
}

// made is the state of a module's lines, whose beginning doesn't trap.
func (d device) made(t *testing.T, s string) *state.State {
	t.Helper()
	x, trap := d.begun(t, s, 0)
	if trap != api.NoTrap {
		t.Fatalf("New of %q: %d", s, trap)
	}
	return x
}

// globals holds a state's globals against what they must be.
func globals(t *testing.T, s *state.State, want ...uint64) {
	t.Helper()
	for i, v := range want {
		if got, e := s.Global(i); got != v || e != api.OK {
			t.Fatalf("Global(%d): %d, %d, not %d", i, got, e, v)
		}
	}
	if got, e := s.Global(len(want)); got != 0 || e != api.ErrRange {
		t.Fatalf("Global(%d), beyond: %d, %d", len(want), got, e)
	}
}

// table holds a state's table against what it must be: functions' numbers, -1 of none.
func table(t *testing.T, s *state.State, want ...int) {
	t.Helper()
	for i, f := range want {
		got, ok, e := s.Entry(i)
		if ok != (f >= 0) || got != max(f, 0) || e != api.OK {
			t.Fatalf("Entry(%d): %d, %v, %d, not %d", i, got, ok, e, f)
		}
	}
	if got, ok, e := s.Entry(len(want)); got != 0 || ok || e != api.ErrRange {
		t.Fatalf("Entry(%d), beyond: %d, %v, %d", len(want), got, ok, e)
	}
}

// memory is a state's memory, that must be there.
func memory(t *testing.T, s *state.State, i int) *space.Memory {
	t.Helper()
	m, ok := s.Memory(i)
	if m == nil || !ok {
		t.Fatalf("Memory(%d): %v, %v", i, m, ok)
	}
	return m
}

// loads holds bytes of a state's memory against what they must be.
func loads(t *testing.T, s *state.State, i int, at uint64, want ...byte) {
	t.Helper()
	if b, trap, e := memory(t, s, i).Load(at, 0, len(want)); !bytes.Equal(b, want) || trap != api.NoTrap || e != api.OK {
		t.Fatalf("Load of %d, at %d: %v, %d, %d, not %v", i, at, b, trap, e, want)
	}
}

// pages holds how many pages the memories have against what they must be.
func pages(t *testing.T, s *state.State, want ...int) {
	t.Helper()
	if l := s.Pages(); !slices.Equal(l, want) {
		t.Fatalf("Pages: %v, not %v", l, want)
	}
}

// TestNew is of P21.1 and P21.2: a module of all parts, and one of none.
func TestNew(t *testing.T) {
	d := roomy(t)
	m := lines(t, some+"table 5; memory 1 2; memory 0 -; memory 3 3 i64; global i32 var 5; global i64 const -7; elem 1 3 0; data 0 65535 x01; data 2 131072 x0203")
	s, trap, e := state.New(m, d.arena, d.pager, 3)
	if s == nil || trap != api.NoTrap || e != api.OK {
		t.Fatalf("New: %v, %d, %d", s, trap, e)
	}
	if s.Module() != m {
		t.Errorf("another module")
	}
	globals(t, s, 5, math.MaxUint64-6)
	table(t, s, -1, 3, 0, -1, -1)
	pages(t, s, 1, 0, 3)
	loads(t, s, 0, 65534, 0, 1)
	loads(t, s, 2, 131071, 0, 2, 3, 0)
	for i, wide := range []bool{false, false, true} {
		if memory(t, s, i).Wide() != wide {
			t.Errorf("memory %d: its addresses", i)
		}
	}
	empty, trap, e := state.New(module.Empty(), d.arena, d.pager, 0)
	if empty == nil || trap != api.NoTrap || e != api.OK {
		t.Fatalf("New: %v, %d, %d", empty, trap, e)
	}
	globals(t, empty)
	table(t, empty)
	pages(t, empty)
	if x, ok := empty.Memory(0); x != nil || ok {
		t.Errorf("Memory(0) of none: %v, %v", x, ok)
	}
}

// TestRooms is of the chapter's words: a room of 8 bytes for each global, one of 4 for each place, both taken also if there are none.
func TestRooms(t *testing.T) {
	for _, words := range []int{0, 1, 2, 3, 4, 5, 8, 9, 49, 50} {
		for _, places := range []int{-1, 0, 1, 4, 5, 8, 9, 255, 256, 257, 999, 1000} {
			m := module.Empty()
			m.Globals = make([]module.Global, words)
			for i := range m.Globals {
				m.Globals[i] = module.Global{Type: api.I64, Value: uint64(i) << 56}
			}
			m.Table = places
			size := arena.Class(8*words) + arena.Class(4*max(0, places))
			d := paged(t, fresh(t, size), 1, 0)
			s, trap, e := state.New(m, d.arena, d.pager, 0)
			if s == nil || trap != api.NoTrap || e != api.OK || d.arena.Live() != size || d.arena.Height() != size {
				t.Fatalf("%d globals, %d places: %d, %d; %d bytes are taken, not %d", words, places, trap, e, d.arena.Live(), size)
			}
			if _, e := s.Global(words - 1); words > 0 && e != api.OK {
				t.Errorf("the last one of %d globals: %d", words, e)
			}
			if _, _, e := s.Entry(places - 1); places > 0 && e != api.OK {
				t.Errorf("the last one of %d places: %d", places, e)
			}
			if e := s.Close(); e != api.OK || d.arena.Live() != 0 {
				t.Errorf("Close: %d; %d bytes are taken", e, d.arena.Live())
			}
		}
	}
}

// TestRoomsBytes is of the chapter's words: what stands in the rooms, and that no byte beside them is written.
func TestRoomsBytes(t *testing.T) {
	d := paged(t, fresh(t, 112), 1, 0)
	s := d.made(t, some+"table 5; global i32 var 1; global i64 var 72623859790382856; global i32 var -1; elem 1 3 0")
	s.Set(0, 0x1122334455667788)
	want := []byte{
		0x88, 0x77, 0x66, 0x55, 0, 0, 0, 0, 8, 7, 6, 5, 4, 3, 2, 1, 255, 255, 255, 255, 0, 0, 0, 0, 0, 0, 0, 0, 0, 0, 0, 0,
		0, 0, 0, 0, 4, 0, 0, 0, 1, 0, 0, 0, 0, 0, 0, 0, 0, 0, 0, 0, 0, 0, 0, 0, 0, 0, 0, 0, 0, 0, 0, 0,
	}
	want = append(want, bytes.Repeat([]byte{255}, 48)...)
	if b, _ := d.arena.Bytes(0, 112); !bytes.Equal(b, want) {
		t.Errorf("the bytes %v, not %v", b, want)
	}
}

// wrong is modules that aren't valid.
func wrong() []*module.Module {
	l := []*module.Module{nil, module.Empty(), module.Empty(), module.Empty(), module.Empty()}
	l[1].Table = 1001
	l[2].Start = 0
	l[3].Datas = []module.Data{{}}
	l[4].Elems = []module.Elem{{}}
	ill, _, _ := text.Parse("sig ()->(i32)\nfunc 0\nend\n")
	bare, _, _ := text.Parse("sig ()->()\nfunc 0\nend\n")
	bare.Funcs[0].Body.L = nil
	return append(l, ill, bare)
}

// TestNewWrong is of P21.1: a nil arena or pager is told first, then a module that isn't valid, then a number, then what isn't there; nothing is taken.
func TestNewWrong(t *testing.T) {
	data := lines(t, "memory 1 1; data 0 0 x01")
	for i, m := range append(wrong(), data, module.Empty()) {
		valid := i >= len(wrong())
		for _, number := range append([]int{0, most, most + 1, most + 2}, outside...) {
			for _, size := range []int{0, 31, 32} {
				a := fresh(t, size)
				p := paged(t, a, 1, 1).pager
				p.Close()
				want := api.ErrType
				switch {
				case !valid:
				case number < 0 || number > most:
					want = api.ErrArg
				case size < 32:
					want = api.ErrFull
				case m == data:
					// The pager is closed.
					want = api.ErrState
				default:
					want = api.OK
				}
				s, trap, e := state.New(m, a, p, number)
				if trap != api.NoTrap || e != want || s == nil != (want != api.OK) {
					t.Errorf("New of module %d, %d, with %d bytes: %v, %d, %d, not %d", i, number, size, s, trap, e, want)
				}
				if b, _ := a.Bytes(0, size); want != api.OK && (a.Live() != 0 || a.Height() != 0 || slices.Contains(b, 0)) {
					t.Errorf("%d bytes are taken, %d cut off", a.Live(), a.Height())
				}
				none(t, m, nil, nil, number)
				none(t, m, a, nil, number)
				none(t, m, nil, p, number)
			}
		}
	}
}

// none holds that without an arena, or a pager, there is no state.
func none(t *testing.T, m *module.Module, a *arena.Arena, p *pager.Pager, number int) {
	t.Helper()
	if s, trap, e := state.New(m, a, p, number); s != nil || trap != api.NoTrap || e != api.ErrState {
		t.Errorf("New without arena or pager: %v, %d, %d", s, trap, e)
	}
}

// TestNumbers is of P21.1 and the chapter's words: memories are numbered from a number on, in the pager.
func TestNumbers(t *testing.T) {
	for _, number := range []int{0, 1, 77, most - 1, most} {
		d := roomy(t)
		s, trap := d.begun(t, "memory 1 1; memory 2 -; memory 0 0; memory 1 3; data 3 64 x09; data 1 131071 x08; data 0 1 x07", number)
		if trap != api.NoTrap {
			t.Fatalf("New: %d", trap)
		}
		for _, c := range []struct {
			mem, page, at int
			v             byte
		}{{0, 0, 1, 7}, {1, 2047, 63, 8}, {3, 1, 0, 9}, {2, 0, 1, 0}} {
			b, e := d.pager.Read(number+c.mem, c.page, c.at, 1)
			if e != api.OK || b[0] != c.v {
				t.Errorf("memory %d from %d on: %v, %d, not %d", c.mem, number, b, e, c.v)
			}
		}
		if d.pager.Write(number+2, 0, 5, []byte{1}); d.arena.Live() != 32 {
			t.Errorf("%d bytes are taken", d.arena.Live())
		}
		d.pager.Write(number, 3, 5, []byte{99})
		loads(t, s, 0, 197, 99)
	}
}

// TestGlobal is of P21.1: words are set, of an I32 the low bits; those beside stay.
func TestGlobal(t *testing.T) {
	s := roomy(t).made(t, "global i64 var 1; global i32 var 2; global i32 const 3; global i64 const 4; global i32 var 5")
	want := []uint64{1, 2, 3, 4, 5}
	globals(t, s, want...)
	for _, v := range []uint64{0, 1, 1<<31 - 1, 1 << 31, 1<<32 - 1, 1 << 32, 1<<32 + 3, 1 << 63, 0x123456789abcdef0, math.MaxUint64} {
		for _, i := range []int{3, 0, 4, 1, 2} {
			want[i] = v
			if i == 1 || i == 2 || i == 4 {
				want[i] = v % (1 << 32)
			}
			if e := s.Set(i, v); e != api.OK {
				t.Errorf("Set(%d, %d): %d", i, v, e)
			}
			globals(t, s, want...)
		}
	}
	for _, i := range append([]int{5, 6, 7, 8, 50}, outside...) {
		if e := s.Set(i, 7); e != api.ErrRange {
			t.Errorf("Set(%d): %d", i, e)
		}
		if v, e := s.Global(i); v != 0 || e != api.ErrRange {
			t.Errorf("Global(%d): %d, %d", i, v, e)
		}
	}
	globals(t, s, want...)
}

// TestExample is the chapter's: of two globals 5, 6 the second one.
func TestExample(t *testing.T) {
	s := roomy(t).made(t, "global i32 const 5; global i64 const 6")
	if v, e := s.Global(1); v != 6 || e != api.OK {
		t.Errorf("Global(1): %d, %d", v, e)
	}
}

// TestEntry is of P21.1: numbers of functions, imports among them, and none; ErrRange of places that aren't in the table.
func TestEntry(t *testing.T) {
	s := roomy(t).made(t, "sig ()->(); import a b 0; func 0; end; func 0; end; table 9; elem 7 2 0; elem 0 1")
	table(t, s, 1, -1, -1, -1, -1, -1, -1, 2, 0)
	for _, i := range append([]int{9, 10, 11, 12, 1000}, outside...) {
		if f, ok, e := s.Entry(i); f != 0 || ok || e != api.ErrRange {
			t.Errorf("Entry(%d): %d, %v, %d", i, f, ok, e)
		}
	}
	for _, places := range []string{"", "table 0"} {
		table(t, roomy(t).made(t, places))
	}
}

// TestEntryMost is of P21.1: the greatest table, and the greatest number of a function.
func TestEntryMost(t *testing.T) {
	m := module.Empty()
	m.Sigs = lines(t, "sig ()->()").Sigs
	m.Imports = slices.Repeat([]module.Import{{Module: "a", Name: "b"}}, 20)
	m.Funcs = slices.Repeat(lines(t, "sig ()->(); func 0; end").Funcs, 80)
	m.Table = 1000
	m.Elems = []module.Elem{{At: 980, Funcs: []int{99, 98, 97, 96, 95, 94, 93, 92, 91, 90, 9, 8, 7, 6, 5, 4, 3, 2, 1, 0}}, {At: 0, Funcs: []int{99}}}
	d := roomy(t)
	s, trap, e := state.New(m, d.arena, d.pager, 0)
	if trap != api.NoTrap || e != api.OK {
		t.Fatalf("New: %d, %d", trap, e)
	}
	want := slices.Repeat([]int{-1}, 1000)
	want[0] = 99
	copy(want[980:], m.Elems[0].Funcs)
	table(t, s, want...)
}

// TestMemory is of P21.2: each memory is the same one each time, and grows up to what its limits tell.
func TestMemory(t *testing.T) {
	s := roomy(t).made(t, "memory 1 2; memory 0 -; memory 2 2; memory 3 - i64")
	pages(t, s, 1, 0, 2, 3)
	for i, c := range []struct {
		had  int
		more uint64
	}{{1, 1}, {0, api.MaxPages}, {2, 0}, {3, api.MaxPages - 3}} {
		m := memory(t, s, i)
		if m != memory(t, s, i) || m.Pages() != c.had || m.Wide() != (i == 3) {
			t.Errorf("memory %d: %d pages", i, m.Pages())
		}
		if _, ok := m.Grow(c.more + 1); ok {
			t.Errorf("memory %d grows by %d", i, c.more+1)
		}
		if had, ok := m.Grow(c.more); had != c.had || !ok {
			t.Errorf("memory %d doesn't grow by %d", i, c.more)
		}
	}
	pages(t, s, 2, api.MaxPages, 2, api.MaxPages)
	for _, i := range append([]int{4, 5}, outside...) {
		if m, ok := s.Memory(i); m != nil || ok {
			t.Errorf("Memory(%d): %v, %v", i, m, ok)
		}
	}
}

// shut holds what nil, or a closed one, answers.
func shut(t *testing.T, s *state.State) {
	t.Helper()
	if s.Module() != nil || len(s.Pages()) != 0 {
		t.Errorf("Module %v, Pages %v", s.Module(), s.Pages())
	}
	for _, i := range append([]int{0, 1, 2, 50, 1000}, outside...) {
		if v, e := s.Global(i); v != 0 || e != api.ErrState {
			t.Errorf("Global(%d): %d, %d", i, v, e)
		}
		if e := s.Set(i, 1); e != api.ErrState {
			t.Errorf("Set(%d): %d", i, e)
		}
		if f, ok, e := s.Entry(i); f != 0 || ok || e != api.ErrState {
			t.Errorf("Entry(%d): %d, %v, %d", i, f, ok, e)
		}
		if m, ok := s.Memory(i); m != nil || ok {
			t.Errorf("Memory(%d): %v, %v", i, m, ok)
		}
	}
	if e := s.Close(); e != api.ErrState {
		t.Errorf("Close: %d", e)
	}
}

// TestNil is of P21.1 and P21.2: of nil.
func TestNil(t *testing.T) {
	shut(t, nil)
}

// TestStays is of rule 4: nothing that is handed in is changed; what is answered isn't kept.
func TestStays(t *testing.T) {
	source := some + "table 3; memory 1 2; global i32 var 5; global i64 var 6; elem 0 1 2; data 0 10 x010203"
	m, was := lines(t, source), lines(t, source)
	spare := append(make([]byte, 0, 9), m.Datas[0].Bytes...)
	m.Datas[0].Bytes = spare
	d := roomy(t)
	s, _, e := state.New(m, d.arena, d.pager, 0)
	if e != api.OK {
		t.Fatalf("New: %d", e)
	}
	s.Set(0, 77)
	memory(t, s, 0).Store(10, 0, []byte{9, 9, 9, 9})
	memory(t, s, 0).Grow(1)
	l := s.Pages()
	l[0] = 99
	pages(t, s, 2)
	other := d.made(t, "memory 1 1")
	memory(t, other, 0).Fill(0, 5, 100)
	other.Close()
	if !module.Same(m, was) || !bytes.Equal(spare[:9], []byte{1, 2, 3, 0, 0, 0, 0, 0, 0}) {
		t.Errorf("the module was changed: %v", m)
	}
	if e := s.Close(); e != api.OK || !module.Same(m, was) {
		t.Errorf("Close: %d", e)
	}
	again, _, _ := state.New(m, d.arena, d.pager, 0)
	globals(t, again, 5, 6)
	table(t, again, 1, 2, -1)
	loads(t, again, 0, 9, 0, 1, 2, 3, 0)
}
