package side_test

import (
	"math"
	"slices"
	"strings"
	"testing"

	"grommet/api"
	"grommet/arena"
	"grommet/side"
)

// fresh is an arena of so many bytes, each of which was 255 ahead of a room being taken.
func fresh(t *testing.T, size int) *arena.Arena {
	t.Helper()
	a, e := arena.New(size)
	if e != api.OK {
		t.Fatal(e)
	}
	a.Copy(0, slices.Repeat([]byte{255}, size))
	return a
}

// put puts a side table into an arena, and answers where.
func put(t *testing.T, s *side.Side, a *arena.Arena) int {
	t.Helper()
	at, e := s.Put(a)
	if e != api.OK {
		t.Fatalf("Put: %d", e)
	}
	return at
}

const threeLabels = "i64.const 1; block; local.get 0; br_table 0 1 0; end; drop; end"

// TestPut is of P18.2: the bytes of jumps, in the order of instructions and labels, and no others.
func TestPut(t *testing.T) {
	a := fresh(t, 200)
	if at := put(t, made(t, "(i32)->(i32)", "loop i32; local.get 0; local.get 0; br_if 1; drop; br 0; end; end"), a); at != 0 {
		t.Errorf("a room at %d", at)
	}
	if at := put(t, made(t, "(i32)->()", threeLabels), a); at != 32 {
		t.Errorf("a room at %d", at)
	}
	want := []byte{
		8, 0, 0, 0, 1, 0, 0, 0, 0, 0, 0, 0,
		1, 0, 0, 0, 0, 0, 0, 0, 0, 0, 0, 0,
		0, 0, 0, 0, 0, 0, 0, 0,
		5, 0, 0, 0, 0, 0, 0, 0, 1, 0, 0, 0,
		7, 0, 0, 0, 0, 0, 0, 0, 0, 0, 0, 0,
		5, 0, 0, 0, 0, 0, 0, 0, 1, 0, 0, 0,
	}
	if got, e := a.Bytes(0, len(want)); !slices.Equal(got, want) || e != api.OK {
		t.Errorf("the bytes %v, not %v", got, want)
	}
	if rest, _ := a.Bytes(96, 104); !slices.Equal(rest, slices.Repeat([]byte{255}, 104)) || a.Live() != 96 || a.Height() != 96 {
		t.Errorf("behind them %v, %d, %d", rest, a.Live(), a.Height())
	}
}

// TestPutOrder is of P18.2: many instructions, their places rising, each jump where Get tells it.
func TestPutOrder(t *testing.T) {
	const n = 300
	s := made(t, "()->()", strings.Repeat("block; br 0; end; i32.const 0; br_table 0 0; ", n)+"end")
	a := fresh(t, 1<<16)
	at := put(t, s, a)
	if s.Len() != 3*n {
		t.Errorf("%d jumps", s.Len())
	}
	for i := range n {
		// The br's own block, and what the br_table has twice: the function's own label.
		for k, want := range []side.Jump{{To: 5*i + 3}, {To: 5*n + 1}, {To: 5*n + 1}} {
			if j, e := side.Get(a, at, 3*i+k); j != want || e != api.OK {
				t.Fatalf("Get of %d: %v, %d, not %v", 3*i+k, j, e, want)
			}
		}
	}
}

// TestPutMost is of P18.2: about as many jumps as a body may have.
func TestPutMost(t *testing.T) {
	const n = 38
	s := made(t, "()->()", strings.Repeat("i32.const 0; br_table"+strings.Repeat(" 0", 101)+"; ", n)+"end")
	a := fresh(t, 1<<16)
	at := put(t, s, a)
	if s.Len() != 101*n || at != 0 || a.Live() != 1<<16 {
		t.Errorf("%d jumps, at %d, of %d bytes", s.Len(), at, a.Live())
	}
	for i := range 101 * n {
		if j, e := side.Get(a, at, i); j != (side.Jump{To: 2*n + 1}) || e != api.OK {
			t.Fatalf("Get of %d: %v, %d", i, j, e)
		}
	}
	if _, e := s.Put(fresh(t, 1<<16-1)); e != api.ErrFull {
		t.Errorf("Put without so much room: %d", e)
	}
}

// TestPutNumbers is of P18.2: numbers of more than a byte.
func TestPutNumbers(t *testing.T) {
	s, e := side.New(with("()->()", row(strings.Repeat("call 0; ", 1000)+"block i64; unreachable; br 0; end; unreachable; end")), looked)
	if e != api.OK {
		t.Fatal(e)
	}
	a := fresh(t, 64)
	at := put(t, s, a)
	if b, _ := a.Bytes(at, 12); !slices.Equal(b, []byte{236, 3, 0, 0, 1, 0, 0, 0, 184, 11, 0, 0}) {
		t.Errorf("the bytes %v", b)
	}
	if j, e := side.Get(a, at, 0); j != (side.Jump{To: 1004, Keep: 1, Height: 3000}) || e != api.OK {
		t.Errorf("Get: %v, %d", j, e)
	}
}

// TestPutRoom is of P18.2: a room of just so many bytes; one for none without jumps; ErrFull without one, and nothing is taken then.
func TestPutRoom(t *testing.T) {
	for _, c := range []struct {
		body string
		room int
	}{
		{"nop; end", 16},
		{"local.get 0; if; end; end", 16},
		{"br 0; end", 16},
		{"br 0; br 0; end", 32},
		{threeLabels, 64},
		{"i32.const 0; br_table 0 0 0 0 0; end", 64},
		{"i32.const 0; br_table 0 0 0 0 0 0; end", 128},
	} {
		s := made(t, "(i32)->()", c.body)
		a := fresh(t, c.room)
		if at := put(t, s, a); at != 0 || a.Live() != c.room {
			t.Errorf("of %q: at %d, %d bytes", c.body, at, a.Live())
		}
		if at, e := s.Put(a); at != 0 || e != api.ErrFull || a.Live() != c.room || a.Height() != c.room {
			t.Errorf("of %q, in a full arena: %d, %d; %d, %d", c.body, at, e, a.Live(), a.Height())
		}
		less := fresh(t, c.room-1)
		at, e := s.Put(less)
		if b, _ := less.Bytes(0, c.room-1); at != 0 || e != api.ErrFull || less.Live() != 0 || less.Height() != 0 || slices.Contains(b, 0) {
			t.Errorf("of %q, in a small arena: %d, %d; %d, %v", c.body, at, e, less.Live(), b)
		}
	}
	// A room that was given back is taken again, and another one beside it.
	s := made(t, "()->()", "br 0; end")
	a := fresh(t, 100)
	a.Take(40)
	first := put(t, s, a)
	second := put(t, s, a)
	a.Give(first)
	if third := put(t, s, a); first != 64 || second != 80 || third != 64 {
		t.Errorf("rooms at %d, %d, %d", first, second, third)
	}
}

// TestPutNil is of P18.2: ErrState of a nil table, or a nil arena.
func TestPutNil(t *testing.T) {
	var none *side.Side
	s, a := made(t, "()->()", "br 0; end"), fresh(t, 100)
	for _, c := range []struct {
		s *side.Side
		a *arena.Arena
	}{{none, nil}, {none, a}, {s, nil}, {none, fresh(t, 0)}} {
		if at, e := c.s.Put(c.a); at != 0 || e != api.ErrState {
			t.Errorf("Put: %d, %d", at, e)
		}
	}
	if a.Live() != 0 {
		t.Errorf("%d bytes are taken", a.Live())
	}
}

// TestGet is of P18.2: any 12 bytes of an arena are a jump's.
func TestGet(t *testing.T) {
	a := fresh(t, 40)
	a.Copy(0, []byte{9, 1, 2, 3, 4, 255, 255, 255, 255, 0, 0, 0, 128, 7, 0, 0, 0, 8, 0, 0, 0, 0, 1, 0, 0})
	for _, c := range []struct {
		at, n int
		want  side.Jump
	}{
		{1, 0, side.Jump{To: 0x04030201, Keep: math.MaxUint32, Height: 1 << 31}},
		{1, 1, side.Jump{To: 7, Keep: 8, Height: 256}},
		{13, 0, side.Jump{To: 7, Keep: 8, Height: 256}},
		{9, 0, side.Jump{To: 1 << 31, Keep: 7, Height: 8}},
		{28, 0, side.Jump{To: math.MaxUint32, Keep: math.MaxUint32, Height: math.MaxUint32}},
		{4, 2, side.Jump{To: math.MaxUint32, Keep: math.MaxUint32, Height: math.MaxUint32}},
	} {
		if j, e := side.Get(a, c.at, c.n); j != c.want || e != api.OK {
			t.Errorf("Get(%d, %d): %v, %d, not %v", c.at, c.n, j, e, c.want)
		}
	}
}

// TestGetWrong is of P18.2: ErrRange of numbers beyond, and else the arena's error.
func TestGetWrong(t *testing.T) {
	const size = 40
	a := fresh(t, size)
	for _, c := range []struct{ at, n int }{
		{0, -1}, {12, -1}, {39, -3}, {0, math.MinInt}, {0, math.MaxInt}, {0, size + 1}, {0, size}, {size + 1, 0}, {math.MaxInt, 0},
		{math.MaxInt, math.MaxInt}, {math.MinInt, math.MaxInt}, {math.MinInt, math.MinInt}, {math.MinInt, 0}, {math.MinInt, 1}, {math.MinInt, size},
		{-1, 0}, {-12, 0}, {-13, 1}, {math.MaxInt / 12, 0}, {0, math.MaxInt / 12}, {0, math.MaxInt/12 + 1}, {0, math.MaxInt/6 + 1},
		{29, 0}, {32, 0}, {33, 0}, {36, 0}, {37, 0}, {39, 0}, {size, 0}, {5, 2}, {17, 1}, {0, 3}, {4, 3},
	} {
		if j, e := side.Get(a, c.at, c.n); j != (side.Jump{}) || e != api.ErrRange {
			t.Errorf("Get(%d, %d): %v, %d", c.at, c.n, j, e)
		}
	}
	// Of no arena the size is 0, so that numbers above it are told ahead of it.
	for _, c := range []struct {
		at, n int
		want  api.Errno
	}{
		{0, 0, api.ErrState}, {-1, 0, api.ErrState}, {math.MinInt, 0, api.ErrState},
		{0, -1, api.ErrRange}, {0, 1, api.ErrRange}, {1, 0, api.ErrRange}, {1, 1, api.ErrRange}, {-12, 1, api.ErrRange},
	} {
		if j, e := side.Get(nil, c.at, c.n); j != (side.Jump{}) || e != c.want {
			t.Errorf("Get(nil, %d, %d): %v, %d, not %d", c.at, c.n, j, e, c.want)
		}
	}
}
