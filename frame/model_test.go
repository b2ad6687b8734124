package frame_test

import (
	"testing"

	"grommet/api"
	"grommet/arena"
	"grommet/frame"
)

// chance is numbers that are as good as any, the same ones each time.
type chance uint64

// word is any word.
func (c *chance) word() uint64 {
	*c = *c*6364136223846793005 + 1442695040888963407
	return uint64(*c) ^ uint64(*c)>>31
}

// below is a number below n.
func (c *chance) below(n int) int {
	return int(c.word() >> 33 % uint64(n))
}

// number is any number of a frame, now and then one that may not be.
func (c *chance) number() int {
	if c.below(30) == 0 {
		return outside[c.below(len(outside))]
	}
	return int(c.word() >> (32 + c.below(32)))
}

// right is whether a number may be.
func right(n int) bool {
	return n >= 0 && n <= greatest
}

// model is what chapter 20 tells of frames, over a plain list.
type model struct {
	*frame.Frames
	many int
	l    []frame.Frame
}

// top is the top frame, and ErrRange without any.
func (m *model) top() (frame.Frame, api.Errno) {
	if len(m.l) == 0 {
		return frame.Frame{}, api.ErrRange
	}
	return m.l[len(m.l)-1], api.OK
}

// push pushes a frame on both, and holds them against each other.
func (m *model) push(t *testing.T, c *chance) api.Errno {
	x, want := frame.Frame{c.number(), c.number(), c.number()}, api.OK
	switch {
	case !right(x.Func) || !right(x.Place) || !right(x.Base):
		want = api.ErrArg
	case len(m.l) == m.many:
		want = api.ErrDepth
	default:
		m.l = append(m.l, x)
	}
	if e := m.Push(x); e != want {
		t.Fatalf("Push of %v: %d, not %d", x, e, want)
	}
	return want
}

// pop takes the top frame of both.
func (m *model) pop(t *testing.T, c *chance) api.Errno {
	x, want := m.top()
	m.l = m.l[:max(0, len(m.l)-1)]
	if got, e := m.Pop(); got != x || e != want {
		t.Fatalf("Pop: %v, %d, not %v, %d", got, e, x, want)
	}
	return want
}

// goes sets the top frame's place in both.
func (m *model) goes(t *testing.T, c *chance) api.Errno {
	place := c.number()
	_, want := m.top()
	if want == api.OK && !right(place) {
		want = api.ErrArg
	} else if want == api.OK {
		m.l[len(m.l)-1].Place = place
	}
	if e := m.Go(place); e != want {
		t.Fatalf("Go(%d): %d, not %d", place, e, want)
	}
	return want
}

// again closes the frames, and makes them anew, in the same arena.
func (m *model) again(t *testing.T, a *arena.Arena) {
	live := a.Live()
	if e := m.Close(); e != api.OK || a.Live() != live-arena.Class(12*m.many) {
		t.Fatalf("Close: %d; %d bytes are taken", e, a.Live())
	}
	shut(t, m.Frames)
	m.Frames, m.l = made(t, a, m.many), nil
	if a.Live() != live {
		t.Fatalf("%d bytes are taken, not %d", a.Live(), live)
	}
}

// TestModel is of P20.1 to P20.3: random calls of frames in one arena, each held against a plain list; none is changed by the others.
func TestModel(t *testing.T) {
	c := chance(20)
	told := map[api.Errno]int{}
	for range 40 {
		sizes := []int{1 + c.below(4), 1 + c.below(10), 1 + c.below(50)}
		size := 0
		for _, many := range sizes {
			size += arena.Class(12 * many)
		}
		a := fresh(t, size)
		var all []*model
		for _, many := range sizes {
			all = append(all, &model{made(t, a, many), many, nil})
		}
		for range 300 {
			m := all[c.below(len(all))]
			calls := []func(*testing.T, *chance) api.Errno{m.push, m.push, m.push, m.pop, m.pop, m.goes}
			switch k := c.below(200); k {
			case 0:
				m.again(t, a)
			case 1:
				m.Clear()
				m.l = nil
			default:
				told[calls[k%len(calls)](t, &c)]++
			}
			for _, m := range all {
				holds(t, m.Frames, m.l...)
			}
		}
		if a.Live() != size || a.Height() != size {
			t.Fatalf("%d bytes are taken, %d cut off, not %d", a.Live(), a.Height(), size)
		}
	}
	for e, least := range map[api.Errno]int{api.OK: 6000, api.ErrArg: 500, api.ErrRange: 300, api.ErrDepth: 500} {
		if told[e] < least {
			t.Errorf("%d was told %d times", e, told[e])
		}
	}
}

// TestLast is of P20.3: calls within calls, as a tree has them; each one that ends is the one that began last.
func TestLast(t *testing.T) {
	c := chance(7)
	f := alone(t, 12)
	began := 0
	var open []frame.Frame
	var call func(deep int)
	call = func(deep int) {
		x := frame.Frame{began, c.below(greatest), deep}
		began++
		if e := f.Push(x); e != api.OK {
			t.Fatalf("Push: %d", e)
		}
		open = append(open, x)
		holds(t, f, open...)
		for range c.below(3) {
			if deep < 11 {
				call(deep + 1)
			}
		}
		if got, e := f.Pop(); got != x || e != api.OK {
			t.Fatalf("Pop: %v, %d, not %v", got, e, x)
		}
		open = open[:len(open)-1]
	}
	for began < 2000 {
		call(0)
	}
	holds(t, f)
}
