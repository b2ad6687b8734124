package space_test

import (
	"slices"
	"testing"

	"grommet/api"
	"grommet/space"
)

// answer is what a call has answered, and how many operations there were behind it.
type answer struct {
	bytes string
	trap  api.Trap
	e     api.Errno
	ops   int
}

// call is one of two memories of a pager.
type call func(m, x *space.Memory) answer

func loading(at uint64, n int) call {
	return func(m, _ *space.Memory) answer {
		b, trap, e := m.Load(at, 0, n)
		return answer{bytes: string(b), trap: trap, e: e}
	}
}

func storing(at uint64, b ...byte) call {
	return func(m, _ *space.Memory) answer {
		trap, e := m.Store(at, 0, b)
		return answer{trap: trap, e: e}
	}
}

func filling(at uint64, v byte, n uint64) call {
	return func(m, _ *space.Memory) answer {
		trap, e := m.Fill(at, v, n)
		return answer{trap: trap, e: e}
	}
}

func copying(to, at, n uint64) call {
	return func(m, x *space.Memory) answer {
		trap, e := x.Copy(m, to, at, n)
		return answer{trap: trap, e: e}
	}
}

func returning(to, at, n uint64) call {
	return func(m, x *space.Memory) answer {
		trap, e := m.Copy(x, to, at, n)
		return answer{trap: trap, e: e}
	}
}

// scene is calls each of which meets operations, accesses that are beyond among them.
func scene() []call {
	return []call{
		storing(10, row(1, 40)...), loading(0, 60), filling(30, 5, 70), loading(page-1, 2), copying(3, 20, 60), storing(page-5, 1, 2, 3, 4, 5, 6),
		loading(10, 90), returning(20, 10, 33), filling(page, 1, 1), filling(0, 0, 50), loading(0, 100), copying(200, 0, 100), storing(100, row(7, 30)...),
		returning(page-50, 0, 50), loading(page-60, 60), copying(page-1, 0, 2), filling(page-60, 0, 60), storing(0, 9), loading(100, 33), loading(0, 1),
	}
}

// answers is what a row of calls answers, up to the first error, which is among them.
func answers(t *testing.T, d device, l []call) []answer {
	t.Helper()
	m, x := d.memory(t, 0, 1, 1), d.memory(t, 1, 1, 1)
	var all []answer
	for _, c := range l {
		a := c(m, x)
		a.ops = d.store.Ops()
		all = append(all, a)
		if a.e != api.OK {
			break
		}
	}
	return all
}

// ended holds that a pager is broken by an error, and that memories of it answer it no more than traps, and how many pages they have.
func ended(t *testing.T, d device, e api.Errno) {
	t.Helper()
	d.store.FailAt(-1)
	ops := d.store.Ops()
	m, x := d.memory(t, 0, 1, 3), d.memory(t, 7, 1, 1)
	for i, c := range []call{loading(0, 1), loading(page-1, 1), storing(0, 1), storing(20, row(1, 90)...), filling(0, 0, 1), filling(5, 1, page-5), copying(0, 0, 1), returning(50, 0, 40)} {
		if a := c(m, x); a != (answer{e: api.ErrState}) {
			t.Errorf("call %d: %+v", i, a)
		}
	}
	for i, c := range []call{loading(page, 1), storing(page-1, 1, 2), filling(0, 0, page+1), copying(page, 0, 1), returning(0, page, 1)} {
		if a := c(m, x); a != (answer{trap: api.Bounds}) {
			t.Errorf("call %d, beyond: %+v", i, a)
		}
	}
	grows(t, m, 2, true)
	if d.Fault() != e || d.store.Ops() != ops {
		t.Errorf("Fault %d, not %d, Ops %d, not %d", d.Fault(), e, d.store.Ops(), ops)
	}
}

// TestFaultAtEach is of P8.2: whichever operation fails first, up to the call that meets it all is as without it; that call answers ErrFault, and nothing beside it, and the later ones ErrState.
func TestFaultAtEach(t *testing.T) {
	for frames := 1; frames <= 3; frames++ {
		whole := answers(t, made(t, 16, frames, 40), scene())
		last := whole[len(whole)-1]
		if last.e != api.OK || len(whole) != len(scene()) || last.ops < 30 {
			t.Fatalf("%d frames, without a fault: %+v", frames, last)
		}
		for n := range last.ops {
			d := made(t, 16, frames, 40)
			d.store.FailAt(n)
			all := answers(t, d, scene())
			met := len(all) - 1
			want := slices.IndexFunc(whole, func(a answer) bool { return a.ops > n })
			if met != want || !slices.Equal(all[:met], whole[:met]) || all[met] != (answer{e: api.ErrFault, ops: n + 1}) {
				t.Fatalf("%d frames, fault at %d: %+v, not %+v", frames, n, all, whole[:want])
			}
			ended(t, d, api.ErrFault)
		}
	}
}

// TestFullAtEach is of P8.2: a store of too few blocks: up to the call that misses one all is as with enough; that call answers ErrFull, and nothing beside it, and the later ones ErrState.
func TestFullAtEach(t *testing.T) {
	for frames := 1; frames <= 3; frames++ {
		whole := answers(t, made(t, 16, frames, 40), scene())
		for capacity := range 15 {
			d := made(t, 16, frames, capacity)
			all := answers(t, d, scene())
			met := len(all) - 1
			if a := all[met]; !slices.Equal(all[:met], whole[:met]) || a != (answer{e: api.ErrFull, ops: a.ops}) {
				t.Fatalf("%d frames, %d blocks: %+v", frames, capacity, all)
			}
			ended(t, d, api.ErrFull)
		}
	}
}

// TestClosed is of P8.2: of a pager that is closed nothing is answered.
func TestClosed(t *testing.T) {
	d := made(t, 16, 2, 40)
	answers(t, d, scene())
	d.Close()
	ended(t, d, api.OK)
}

// TestErrorAhead is of P8.2: what isn't as it must be is told ahead of the pager's error.
func TestErrorAhead(t *testing.T) {
	d := made(t, 16, 1, 1)
	m := d.memory(t, 0, 17, 17)
	d.Close()
	for i, c := range []struct {
		call call
		want answer
	}{
		{loading(0, -1), answer{e: api.ErrArg}}, {loading(0, space.MaxBulk+1), answer{e: api.ErrLong}}, {loading(17*page, 1), answer{trap: api.Bounds}}, {loading(0, space.MaxBulk), answer{e: api.ErrState}},
		{storing(0, row(0, space.MaxBulk+1)...), answer{e: api.ErrLong}}, {storing(17*page, 1), answer{trap: api.Bounds}}, {storing(page, row(0, space.MaxBulk)...), answer{e: api.ErrState}},
		{filling(0, 0, space.MaxBulk+1), answer{e: api.ErrLong}}, {filling(17*page, 0, 1), answer{trap: api.Bounds}}, {filling(page, 0, space.MaxBulk), answer{e: api.ErrState}},
		{copying(0, 0, space.MaxBulk+1), answer{e: api.ErrLong}}, {copying(0, 17*page, 1), answer{trap: api.Bounds}}, {copying(page, 0, space.MaxBulk), answer{e: api.ErrState}},
	} {
		if a := c.call(m, m); a != c.want {
			t.Errorf("call %d: %+v, not %+v", i, a, c.want)
		}
	}
}

// TestCopyFault is of P8.2: another pager that fails is told, and changes nothing of the memory that is copied to, nor breaks its pager; one that fails where bytes are put changes nothing of the memory that they are from.
func TestCopyFault(t *testing.T) {
	for n := range 8 {
		here, there := made(t, 16, 2, 40), made(t, 16, 2, 40)
		m, from := here.memory(t, 0, 1, 1), there.memory(t, 0, 1, 1)
		stores(t, m, 0, row(1, 100)...)
		stores(t, from, 0, row(2, 100)...)
		bad, good, stays, want := there, here, m, row(1, 100)
		if n >= 4 {
			bad, good, stays, want = here, there, from, row(2, 100)
		}
		bad.store.FailAt(bad.store.Ops() + n%4)
		if trap, e := m.Copy(from, 5, 0, 90); trap != api.NoTrap || e != api.ErrFault {
			t.Fatalf("Copy: %d, %d", trap, e)
		}
		ended(t, bad, api.ErrFault)
		loads(t, stays, 0, want...)
		if good.Fault() != api.OK {
			t.Errorf("Fault %d", good.Fault())
		}
	}
}
