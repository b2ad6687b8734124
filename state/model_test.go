package state_test

import (
	"bytes"
	"math"
	"math/bits"
	"slices"
	"testing"

	"grommet/api"
	"grommet/module"
	"grommet/state"
	"grommet/types"
)

// chance is numbers that are as good as any, the same ones each time.
type chance uint64

// word is any word.
func (c *chance) word() uint64 {
	*c = *c*6364136223846793005 + 1442695040888963407
	return uint64(*c) ^ uint64(*c)>>31
}

// below is a number below n.
func (c *chance) below(n int) int {
	return int(c.word() >> 33 % uint64(n))
}

// near is a number about up to n, now and then one far outside.
func (c *chance) near(n int) int {
	if c.below(30) == 0 {
		return outside[c.below(len(outside))]
	}
	return c.below(n+4) - 1
}

// any is a valid module.
func (c *chance) any(t *testing.T) *module.Module {
	m := lines(t, some+"table 0")
	for range c.below(6) {
		x := module.Global{Type: api.I64, Mutable: c.below(2) == 0, Value: c.word()}
		if c.below(2) == 0 {
			x.Type, x.Value = api.I32, x.Value>>32
		}
		m.Globals = append(m.Globals, x)
	}
	m.Table = c.below(10) - 1
	for range c.below(5) {
		least := c.below(3)
		m.Mems = append(m.Mems, types.Limits{Min: least, Max: []int{least, least + c.below(3), -1}[c.below(3)], Wide: c.below(2) == 0})
	}
	for m.Table >= 0 && c.below(3) > 0 {
		x := module.Elem{At: uint64(c.below(m.Table + 1))}
		for range c.below(1 + m.Table - int(x.At)) {
			x.Funcs = append(x.Funcs, c.below(4))
		}
		if c.below(8) == 0 {
			x.At += uint64(c.below(4))
		}
		m.Elems = append(m.Elems, x)
	}
	for len(m.Mems) > 0 && c.below(4) > 0 && len(m.Datas) < 20 {
		m.Datas = append(m.Datas, c.datum(m.Mems))
	}
	return m
}

// datum is data of one of memories, about one of their ends, or their first bytes.
func (c *chance) datum(mems []types.Limits) module.Data {
	x := module.Data{Mem: c.below(len(mems)), Bytes: make([]byte, c.below(30))}
	for i := range x.Bytes {
		x.Bytes[i] = byte(c.below(4) * c.below(100))
	}
	size := mems[x.Mem].Min * page
	x.At = uint64(c.below(40))
	if size > 0 && c.below(2) == 0 {
		x.At = uint64(size - c.below(40) - 1)
	}
	if c.below(12) == 0 {
		x.At = uint64(size + c.below(3))
	}
	if mems[x.Mem].Wide && c.below(40) == 0 {
		x.At = -uint64(c.below(10) + 1)
	}
	return x
}

// cell is a byte of a memory.
type cell struct {
	mem int
	at  uint64
}

// model is what chapter 21 tells of a state, in plain lists.
type model struct {
	*state.State
	m       *module.Module
	globals []uint64
	table   []int
	pages   []int
	bytes   map[cell]byte
}

// begins is the model of a module at its beginning, and its trap.
func begins(m *module.Module) (*model, api.Trap) {
	x := &model{m: m, table: slices.Repeat([]int{-1}, max(0, m.Table)), bytes: map[cell]byte{}}
	for _, g := range m.Globals {
		x.globals = append(x.globals, g.Value)
	}
	for _, l := range m.Mems {
		x.pages = append(x.pages, l.Min)
	}
	for _, y := range m.Elems {
		if int(y.At)+len(y.Funcs) > m.Table {
			return x, api.Undefined
		}
		copy(x.table[y.At:], y.Funcs)
	}
	for _, y := range m.Datas {
		end, over := bits.Add64(y.At, uint64(len(y.Bytes)), 0)
		if over > 0 || end > uint64(x.pages[y.Mem]*page) {
			return x, api.Bounds
		}
		for i, b := range y.Bytes {
			x.bytes[cell{y.Mem, y.At + uint64(i)}] = b
		}
	}
	return x, api.NoTrap
}

// made makes a state of any module, beside its model.
func (c *chance) made(t *testing.T, d device, number int) (*model, api.Trap) {
	m := c.any(t)
	x, want := begins(m)
	s, trap, e := state.New(m, d.arena, d.pager, number)
	if s == nil || trap != want || e != api.OK {
		t.Fatalf("New of %+v: %v, %d, %d, not %d", m, s, trap, e, want)
	}
	x.State = s
	return x, trap
}

// holds holds a state against its model.
func (x *model) holds(t *testing.T) {
	t.Helper()
	globals(t, x.State, x.globals...)
	table(t, x.State, x.table...)
	pages(t, x.State, x.pages...)
	if x.Module() != x.m {
		t.Fatalf("another module")
	}
}

// loaded holds the bytes of a state's memories against its model's: at their first ones, and about each end of a page.
func (x *model) loaded(t *testing.T) {
	t.Helper()
	for i, n := range x.pages {
		for p := range min(n, 4) {
			for _, at := range []int{p * page, (p+1)*page - 60} {
				want := make([]byte, 60)
				for k := range want {
					want[k] = x.bytes[cell{i, uint64(at + k)}]
				}
				loads(t, x.State, i, uint64(at), want...)
			}
		}
	}
}

// set sets a global of both.
func (x *model) set(t *testing.T, c *chance) api.Errno {
	i, v := c.near(len(x.globals)), c.word()
	want := api.ErrRange
	if i >= 0 && i < len(x.globals) {
		x.globals[i], want = v, api.OK
		if x.m.Globals[i].Type == api.I32 {
			x.globals[i] = v & math.MaxUint32
		}
	}
	if e := x.Set(i, v); e != want {
		t.Fatalf("Set(%d): %d, not %d", i, e, want)
	}
	return want
}

// ask asks both for what stands at a number.
func (x *model) ask(t *testing.T, c *chance) api.Errno {
	i, want, f := c.near(len(x.table)), api.ErrRange, -1
	if i >= 0 && i < len(x.table) {
		want, f = api.OK, x.table[i]
	}
	if got, ok, e := x.Entry(i); got != max(f, 0) || ok != (f >= 0) || e != want {
		t.Fatalf("Entry(%d): %d, %v, %d, not %d, %d", i, got, ok, e, f, want)
	}
	if i < len(x.table) {
		return want
	}
	there := i < len(x.pages)
	if m, ok := x.Memory(i); ok != there || m == nil != !there {
		t.Fatalf("Memory(%d): %v, %v", i, m, ok)
	}
	return want
}

// grow lets a memory of both grow.
func (x *model) grow(t *testing.T, c *chance) api.Errno {
	if len(x.pages) == 0 {
		return api.ErrNone
	}
	i, n := c.below(len(x.pages)), c.below(3)
	had, ok := memory(t, x.State, i).Grow(uint64(n))
	greatest := x.m.Mems[i].Max
	if fits := greatest < 0 || x.pages[i]+n <= greatest; ok != fits || ok && had != x.pages[i] {
		t.Fatalf("Grow(%d) of %d, of %d: %d, %v", n, x.pages[i], greatest, had, ok)
	}
	if !ok {
		return api.ErrRange
	}
	x.pages[i] += n
	return api.OK
}

// store puts bytes into a memory of both.
func (x *model) store(t *testing.T, c *chance) api.Errno {
	if len(x.pages) == 0 {
		return api.ErrNone
	}
	y := c.datum(x.m.Mems)
	trap, e := memory(t, x.State, y.Mem).Store(y.At, 0, y.Bytes)
	if e != api.OK {
		t.Fatalf("Store: %d", e)
	}
	if trap != api.NoTrap {
		return api.ErrTrap
	}
	for i, b := range y.Bytes {
		x.bytes[cell{y.Mem, y.At + uint64(i)}] = b
	}
	return api.OK
}

// TestModel is of P21.1 to P21.3: random calls of states in one arena and one pager, each held against plain lists; none is changed by the others.
func TestModel(t *testing.T) {
	c := chance(21)
	told, traps := map[api.Errno]int{}, map[api.Trap]int{}
	for range 60 {
		d := paged(t, fresh(t, 3*128), 1+c.below(5), 500)
		var all []*model
		for i := range 3 {
			x, trap := c.made(t, d, 4*i)
			all = append(all, x)
			traps[trap]++
		}
		for range 120 {
			i := c.below(3)
			x := all[i]
			calls := []func(*testing.T, *chance) api.Errno{x.set, x.ask, x.grow, x.store}
			if k := c.below(40); k > 0 {
				told[calls[k%len(calls)](t, &c)]++
			} else {
				x.loaded(t)
				if e := x.Close(); e != api.OK {
					t.Fatalf("Close: %d", e)
				}
				shut(t, x.State)
				var trap api.Trap
				all[i], trap = c.made(t, d, 4*i)
				traps[trap]++
			}
			for _, x := range all {
				x.holds(t)
			}
		}
		for _, x := range all {
			x.loaded(t)
			if e := x.Close(); e != api.OK {
				t.Fatalf("Close: %d", e)
			}
		}
		if d.arena.Live() != 0 || d.store.Used() != 0 || d.pager.Resident() != 0 {
			t.Fatalf("%d bytes are taken, %d blocks in use", d.arena.Live(), d.store.Used())
		}
	}
	for e, least := range map[api.Errno]int{api.OK: 3000, api.ErrRange: 1500, api.ErrTrap: 50} {
		if told[e] < least {
			t.Errorf("%d was told %d times", e, told[e])
		}
	}
	for trap, least := range map[api.Trap]int{api.NoTrap: 100, api.Undefined: 30, api.Bounds: 30} {
		if traps[trap] < least {
			t.Errorf("the trap %d %d times", trap, traps[trap])
		}
	}
}

// TestLater is of P21.3: without a trap each byte of data is there, if no later data is.
func TestLater(t *testing.T) {
	c := chance(3)
	held := 0
	for range 900 {
		m := c.any(t)
		d := paged(t, fresh(t, 128), 2, 500)
		s, trap, e := state.New(m, d.arena, d.pager, c.below(1000))
		if e != api.OK {
			t.Fatalf("New: %d", e)
		}
		if trap != api.NoTrap {
			continue
		}
		for i, x := range m.Datas {
			later := func(at uint64) bool {
				return slices.ContainsFunc(m.Datas[i+1:], func(y module.Data) bool {
					return y.Mem == x.Mem && y.At <= at && at-y.At < uint64(len(y.Bytes))
				})
			}
			got, _, e := memory(t, s, x.Mem).Load(x.At, 0, len(x.Bytes))
			for k, b := range x.Bytes {
				if at := x.At + uint64(k); !later(at) {
					held++
					if e != api.OK || got[k] != b {
						t.Fatalf("byte %d of data %d: %v, %d, not %d", k, i, got, e, b)
					}
				}
			}
			if whole := len(x.Bytes) > 0 && !slices.ContainsFunc(m.Datas[i+1:], func(y module.Data) bool { return y.Mem == x.Mem }); whole && !bytes.Equal(got, x.Bytes) {
				t.Fatalf("data %d: %v, not %v", i, got, x.Bytes)
			}
		}
	}
	if held < 2000 {
		t.Errorf("%d bytes were held", held)
	}
}
