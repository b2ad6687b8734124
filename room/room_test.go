package room_test

import (
	"bytes"
	"testing"

	"grommet/api"
	"grommet/arena"
	"grommet/room"
)

// holes are rooms that were cut off, and those that were given back, the last one last.
var holes = []struct {
	cut, given []int
}{
	{nil, nil}, {[]int{16}, nil}, {[]int{16}, []int{0}}, {[]int{32}, []int{0}}, {[]int{64}, []int{0}}, {[]int{128}, []int{0}}, {[]int{256}, []int{0}},
	{[]int{16, 16}, []int{0, 1}}, {[]int{16, 16}, []int{1, 0}}, {[]int{32, 32}, []int{0, 1}}, {[]int{32, 32}, []int{1, 0}}, {[]int{64, 64}, []int{1, 0}}, {[]int{64, 64}, []int{0}},
	{[]int{16, 32}, []int{0, 1}}, {[]int{32, 16}, []int{0, 1}}, {[]int{16, 64}, []int{1, 0}}, {[]int{32, 64}, []int{0, 1}}, {[]int{16, 32}, []int{0}}, {[]int{16, 32}, []int{1}},
	{[]int{16, 16, 16}, []int{2, 0, 1}}, {[]int{32, 32, 32}, []int{1, 0, 2}}, {[]int{16, 128, 16}, []int{0, 1, 2}}, {[]int{32, 128, 64}, []int{1, 0}}, {[]int{128, 128, 32}, []int{1, 0}},
	{[]int{16, 16, 16, 16}, []int{3, 1}}, {[]int{16, 16, 16, 16}, []int{3, 1, 0, 2}}, {[]int{128, 256, 128, 16}, []int{0, 2, 1}}, {[]int{16, 32, 64, 128}, []int{0, 1, 2, 3}},
}

// holed is an arena in which rooms of these bytes were cut off, and some given back, in this order, with so much left behind them; its bytes count on.
func holed(t *testing.T, cut, given []int, left int) *arena.Arena {
	t.Helper()
	size := left
	for _, n := range cut {
		size += n
	}
	a, e := arena.New(size)
	if e != api.OK {
		t.Fatalf("arena.New(%d): %d", size, e)
	}
	var at []int
	for _, n := range cut {
		x, e := a.Take(n)
		if e != api.OK {
			t.Fatalf("Take(%d): %d", n, e)
		}
		at = append(at, x)
	}
	for _, i := range given {
		a.Give(at[i])
	}
	for i := range size {
		a.Put(i, 1, uint64(i*7+1))
	}
	return a
}

// fits tells whether both rooms are taken, one after the other.
func fits(a *arena.Arena, one, other int) bool {
	_, e := a.Take(one)
	_, f := a.Take(other)
	return e == api.OK && f == api.OK
}

// unsure tells whether only taking tells that there are rooms, as one might be cut off: either one could be, not both, and what was given back might be of another class than both.
func unsure(one, other, left int) bool {
	one, other = arena.Class(one), arena.Class(other)
	return max(one, other) <= left && left < one+other && (min(one, other) > 16 || max(one, other) > 32)
}

// TestBoth holds an answer against taking both rooms, whichever is asked for first, and that the arena is as it was, its bytes and the order in which it gives rooms, too.
func TestBoth(t *testing.T) {
	told := map[string]int{}
	for _, h := range holes {
		for k := range 30 {
			// About each multiple of the least class.
			left := max(0, 16*(k/3)+k%3-1)
			for _, one := range []int{0, 17, 64, 100} {
				for _, other := range []int{16, 20, 33, 128} {
					for _, l := range [][2]int{{one, other}, {other, one}} {
						a := holed(t, h.cut, h.given, left)
						want := fits(holed(t, h.cut, h.given, left), l[0], l[1])
						if got := room.Both(a, l[0], l[1]); got != want {
							t.Fatalf("%v, %d left: Both(%d, %d): %v, not %v", h, left, l[0], l[1], got, want)
						}
						if want {
							told["there"]++
						}
						told[asWas(t, a, holed(t, h.cut, h.given, left), unsure(one, other, left))]++
					}
				}
			}
		}
	}
	for k, least := range map[string]int{"as it was": 10000, "higher": 100, "there": 10000} {
		if told[k] < least {
			t.Errorf("%q: %d times", k, told[k])
		}
	}
}

// asWas holds that an arena is as one that wasn't asked; only that more was cut off may be allowed.
func asWas(t *testing.T, a, was *arena.Arena, higher bool) string {
	t.Helper()
	b, _ := a.Bytes(0, a.Size())
	want, _ := was.Bytes(0, was.Size())
	if a.Live() != was.Live() || !bytes.Equal(b, want) {
		t.Fatalf("%d are taken, not %d; the bytes %v", a.Live(), was.Live(), b)
	}
	if higher && a.Height() > was.Height() {
		return "higher"
	}
	if a.Height() != was.Height() {
		t.Fatalf("%d are cut off, not %d", a.Height(), was.Height())
	}
	for _, n := range []int{256, 16, 128, 16, 64, 32, 16, 64, 32, 16, 32, 16} {
		x, e := a.Take(n)
		if y, f := was.Take(n); x != y || e != f {
			t.Fatalf("then a room of %d: %d, %d, not %d, %d", n, x, e, y, f)
		}
	}
	return "as it was"
}

// TestGreat is of rooms greater than an arena has bytes.
func TestGreat(t *testing.T) {
	a, _ := arena.New(1 << 22)
	for _, c := range []struct {
		one, other int
		want       bool
	}{{1 << 22, 0, false}, {0, 1 << 22, false}, {1 << 21, 1 << 21, true}, {1<<21 + 1, 1, false}, {1 << 21, 1<<21 - 1, true}} {
		if got := room.Both(a, c.one, c.other); got != c.want || a.Live()+a.Height() != 0 {
			t.Errorf("Both(%d, %d): %v; %d are taken", c.one, c.other, got, a.Live())
		}
	}
}
