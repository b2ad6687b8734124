package stack_test

import (
	"math"
	"slices"
	"testing"

	"grommet/api"
	"grommet/arena"
	"grommet/stack"
)

// chance is numbers that are as good as any, the same ones each time.
type chance uint64

// word is any word.
func (c *chance) word() uint64 {
	*c = *c*6364136223846793005 + 1442695040888963407
	return uint64(*c) ^ uint64(*c)>>31
}

// below is a number below n.
func (c *chance) below(n int) int {
	return int(c.word() >> 33 % uint64(n))
}

// near is a number about up to n, now and then one far outside.
func (c *chance) near(n int) int {
	if c.below(30) == 0 {
		return outside[c.below(len(outside))]
	}
	return c.below(n+4) - 1
}

// words is up to n words.
func (c *chance) words(n int) []uint64 {
	l := make([]uint64, c.below(n+1))
	for i := range l {
		l[i] = c.word()
	}
	return l
}

// model is what chapter 19 tells of a stack, over a plain list.
type model struct {
	*stack.Stack
	cells int
	l     []uint64
}

// there is OK, if n words from one on are there.
func (m *model) there(at, n int) api.Errno {
	if at < 0 || n < 0 || at > len(m.l) || n > len(m.l) || at+n > len(m.l) {
		return api.ErrRange
	}
	return api.OK
}

// push pushes words on both, and holds them against each other.
func (m *model) push(t *testing.T, c *chance) api.Errno {
	l, want := c.words(m.cells/3+2), api.OK
	if len(m.l)+len(l) > m.cells {
		want = api.ErrDepth
	} else {
		m.l = append(m.l, l...)
	}
	if e := m.Push(l...); e != want {
		t.Fatalf("Push of %d words: %d, not %d", len(l), e, want)
	}
	return want
}

// take takes words of both.
func (m *model) take(t *testing.T, c *chance) api.Errno {
	n := c.near(min(len(m.l), 3))
	want, kept := m.there(0, n), m.l
	if want == api.OK {
		kept = m.l[:len(m.l)-n]
	}
	if l, e := m.Take(n); e != want || !slices.Equal(l, m.l[len(kept):]) {
		t.Fatalf("Take(%d): %v, %d, not %d", n, l, e, want)
	}
	m.l = kept
	return want
}

// pop takes a word of both.
func (m *model) pop(t *testing.T, c *chance) api.Errno {
	want, v := m.there(0, 1), uint64(0)
	if want == api.OK {
		v = m.l[len(m.l)-1]
		m.l = m.l[:len(m.l)-1]
	}
	if got, e := m.Pop(); got != v || e != want {
		t.Fatalf("Pop: %d, %d, not %d, %d", got, e, v, want)
	}
	return want
}

// set sets a cell of both, and asks for it.
func (m *model) set(t *testing.T, c *chance) api.Errno {
	at, v := c.near(len(m.l)), c.word()
	want := api.ErrRange
	if at >= 0 && at < len(m.l) {
		m.l[at], want = v, api.OK
	} else {
		v = 0
	}
	e := m.Set(at, v)
	if got, g := m.Get(at); e != want || got != v || g != want {
		t.Fatalf("Set(%d): %d; Get: %d, %d, not %d", at, e, got, g, want)
	}
	return want
}

// unwind unwinds both.
func (m *model) unwind(t *testing.T, c *chance) api.Errno {
	keep, height := c.near(4), c.near(len(m.l))
	want := m.there(height, keep)
	if want == api.OK {
		m.l = slices.Concat(m.l[:height], m.l[len(m.l)-keep:])
	}
	if e := m.Unwind(keep, height); e != want {
		t.Fatalf("Unwind(%d, %d): %d, not %d", keep, height, e, want)
	}
	return want
}

// again closes the stack, and makes it anew, in the same arena.
func (m *model) again(t *testing.T, a *arena.Arena) {
	live := a.Live()
	if e := m.Close(); e != api.OK || a.Live() != live-arena.Class(8*m.cells) {
		t.Fatalf("Close: %d; %d bytes are taken", e, a.Live())
	}
	shut(t, m.Stack)
	m.Stack, m.l = made(t, a, m.cells), nil
	if a.Live() != live {
		t.Fatalf("%d bytes are taken, not %d", a.Live(), live)
	}
}

// TestModel is of P19.1 to P19.3: random calls of stacks in one arena, each held against a plain list; none is changed by the others.
func TestModel(t *testing.T) {
	c := chance(19)
	told := map[api.Errno]int{}
	for range 40 {
		sizes := []int{1 + c.below(5), 1 + c.below(20), 1 + c.below(90)}
		size := 0
		for _, cells := range sizes {
			size += arena.Class(8 * cells)
		}
		a := fresh(t, size)
		var all []*model
		for _, cells := range sizes {
			all = append(all, &model{made(t, a, cells), cells, nil})
		}
		for range 300 {
			m := all[c.below(len(all))]
			calls := []func(*testing.T, *chance) api.Errno{m.push, m.push, m.take, m.pop, m.set, m.unwind}
			if k := c.below(100); k > 0 {
				told[calls[k%len(calls)](t, &c)]++
			} else {
				m.again(t, a)
			}
			for _, m := range all {
				holds(t, m.Stack, m.cells-len(m.l), m.l...)
			}
		}
		if a.Live() != size || a.Height() != size {
			t.Fatalf("%d bytes are taken, %d cut off, not %d", a.Live(), a.Height(), size)
		}
	}
	for e, least := range map[api.Errno]int{api.OK: 6000, api.ErrRange: 1000, api.ErrDepth: 300} {
		if told[e] < least {
			t.Errorf("%d was told %d times", e, told[e])
		}
	}
}

// TestLast is of P19.3: all that was pushed is popped in the other order.
func TestLast(t *testing.T) {
	c := chance(3)
	for _, cells := range []int{1, 2, 7, 500} {
		s := alone(t, cells)
		var l []uint64
		for s.Room() > 0 {
			v := []uint64{c.word(), 0, math.MaxUint64}[c.below(3)]
			l = append(l, v)
			if e := s.Push(v); e != api.OK {
				t.Fatalf("Push: %d", e)
			}
		}
		for _, want := range slices.Backward(l) {
			if v, e := s.Pop(); v != want || e != api.OK {
				t.Fatalf("Pop: %d, %d, not %d", v, e, want)
			}
		}
		if len(l) != cells || s.Height() != 0 {
			t.Errorf("%d words, and %d are left", len(l), s.Height())
		}
	}
}
