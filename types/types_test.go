package types_test

import (
	"math"
	"slices"
	"testing"

	"grommet/api"
	"grommet/types"
)

const most = 20 // types of parameters, and of results

var both = []api.Type{api.I32, api.I64}

// row is so many types, one and the other by turns, the given one first.
func row(n int, first api.Type) []api.Type {
	l := make([]api.Type, n)
	for i := range l {
		l[i] = first
		if i%2 == 1 {
			l[i] = api.I32 + api.I64 - first
		}
	}
	return l
}

// lists are all lists of up to so many types.
func lists(n int) [][]api.Type {
	out, last := [][]api.Type{nil}, [][]api.Type{nil}
	for range n {
		var next [][]api.Type
		for _, l := range last {
			for _, t := range both {
				next = append(next, append(slices.Clone(l), t))
			}
		}
		out, last = append(out, next...), next
	}
	return out
}

// sigs are signatures that are right: all of up to three types each, and some up to the most.
func sigs() []types.Sig {
	var out []types.Sig
	for _, params := range lists(3) {
		for _, results := range lists(3) {
			out = append(out, types.Sig{Params: params, Results: results})
		}
	}
	for n := range most + 1 {
		for _, t := range both {
			out = append(out, types.Sig{Params: row(n, t), Results: row(most-n, t)}, types.Sig{Params: row(most, t), Results: row(n, t)}, types.Sig{Params: row(n, t), Results: row(most, t)})
		}
	}
	return out
}

// copied is a signature that shares nothing with another one.
func copied(s types.Sig) types.Sig {
	return types.Sig{Params: slices.Clone(s.Params), Results: slices.Clone(s.Results)}
}

// alike holds lists of types one by one.
func alike(a, b types.Sig) bool {
	return string(told(a.Params)) == string(told(b.Params)) && string(told(a.Results)) == string(told(b.Results))
}

func told(l []api.Type) []byte {
	var b []byte
	for _, t := range l {
		b = append(b, byte(t))
	}
	return b
}

// TestName is of P9.1: i32, i64, and ? of all others.
func TestName(t *testing.T) {
	for i := range 256 {
		want := "?"
		switch i {
		case 127:
			want = "i32"
		case 126:
			want = "i64"
		}
		if got := types.Name(api.Type(i)); got != want {
			t.Errorf("Name(%d): %q", i, got)
		}
	}
}

// TestBits is of P9.1: 32, 64, and 0 of all others.
func TestBits(t *testing.T) {
	for i := range 256 {
		want := 0
		switch i {
		case 127:
			want = 32
		case 126:
			want = 64
		}
		if got := types.Bits(api.Type(i)); got != want {
			t.Errorf("Bits(%d): %d", i, got)
		}
	}
}

// TestRight is of P9.1: up to 20 parameters, and up to 20 results, of both types.
func TestRight(t *testing.T) {
	for _, s := range sigs() {
		if !s.Right() {
			t.Errorf("Right of %v: false", s)
		}
	}
	for n := range 60 {
		for _, first := range both {
			l := row(n, first)
			want := n <= most
			for _, s := range []types.Sig{{Params: l}, {Results: l}, {Params: l, Results: row(1, first)}, {Params: row(most, first), Results: l}, {Params: l, Results: l}} {
				if s.Right() != want {
					t.Errorf("Right of %d and %d types: %t", len(s.Params), len(s.Results), !want)
				}
			}
		}
	}
	if (types.Sig{Params: row(most+1, api.I32), Results: row(most+1, api.I32)}).Right() {
		t.Error("Right of too many types of both")
	}
	if !(types.Sig{Params: []api.Type{}, Results: []api.Type{}}).Right() {
		t.Error("Right of no types: false")
	}
}

// TestRightTypes is of P9.1: a type that is none, at any place, is told.
func TestRightTypes(t *testing.T) {
	for i := range 256 {
		one := api.Type(i)
		want := one == api.I32 || one == api.I64
		for _, n := range []int{1, 2, 7, most} {
			for at := range n {
				l := row(n, api.I64)
				l[at] = one
				for _, s := range []types.Sig{{Params: l}, {Results: l}, {Params: l, Results: row(most, api.I32)}, {Params: row(3, api.I32), Results: l}} {
					if s.Right() != want {
						t.Errorf("Right of %v: %t", s, !want)
					}
				}
			}
		}
	}
}

// TestPrint is of P9.1: a signature's text; ? of other types, and as many as there are.
func TestPrint(t *testing.T) {
	for _, c := range []struct {
		s    types.Sig
		want string
	}{
		{types.Sig{}, "()->()"},
		{types.Sig{Params: []api.Type{}, Results: []api.Type{}}, "()->()"},
		{types.Sig{Params: []api.Type{api.I32}}, "(i32)->()"},
		{types.Sig{Results: []api.Type{api.I64}}, "()->(i64)"},
		{types.Sig{Params: []api.Type{api.I32, api.I64}, Results: []api.Type{api.I32}}, "(i32,i64)->(i32)"},
		{types.Sig{Params: []api.Type{api.I64, api.I64, api.I32}, Results: []api.Type{api.I32, api.I64}}, "(i64,i64,i32)->(i32,i64)"},
		{types.Sig{Params: []api.Type{0}, Results: []api.Type{125, 255}}, "(?)->(?,?)"},
		{types.Sig{Params: []api.Type{api.I32, 128, api.I64}, Results: []api.Type{64}}, "(i32,?,i64)->(?)"},
	} {
		if got := c.s.Print(); got != c.want {
			t.Errorf("Print of %v: %q", c.s, got)
		}
	}
	for _, s := range sigs() {
		printed(t, s)
	}
	for _, n := range []int{most + 1, 100} {
		printed(t, types.Sig{Params: row(n, api.I32), Results: row(n+1, api.I64)})
	}
}

// printed holds a signature's text, of which the types are right, against one that is made type by type.
func printed(t *testing.T, s types.Sig) {
	t.Helper()
	want := ""
	for i, l := range [][]api.Type{s.Params, s.Results} {
		want += []string{"(", ")->("}[i]
		for j, x := range l {
			if j > 0 {
				want += ","
			}
			want += map[api.Type]string{api.I32: "i32", api.I64: "i64"}[x]
		}
	}
	if got := s.Print(); got != want+")" {
		t.Errorf("Print: %q, not %q", got, want+")")
	}
}

// TestSame is of P9.1: the same types, in the same order, of parameters and of results, whether they are right or not.
func TestSame(t *testing.T) {
	all := []types.Sig{{Params: []api.Type{0}}, {Params: []api.Type{1}}, {Results: []api.Type{0}}, {Params: []api.Type{255}, Results: []api.Type{0, 1}}, {Params: row(most+1, api.I32)}, {Params: row(most+2, api.I32)}}
	all = append(all, sigs()[:225]...)
	all = append(all, types.Sig{Params: row(most, api.I32), Results: row(most, api.I32)}, types.Sig{Params: row(most, api.I32), Results: row(most, api.I64)}, types.Sig{Params: row(most, api.I64), Results: row(most, api.I32)})
	for i, a := range all {
		for j, b := range all {
			if got := types.Same(a, copied(b)); got != (i == j) {
				t.Errorf("Same(%v, %v): %t", a, b, got)
			}
		}
	}
	none := types.Sig{Params: []api.Type{}, Results: []api.Type{}}
	if !types.Same(none, types.Sig{}) || !types.Same(types.Sig{}, none) || !types.Same(none, none) {
		t.Error("Same of no types: false")
	}
}

// TestSigKept is of P9.1 and rule 4: what is handed in stays as it is, its spare room too, and what is answered is new.
func TestSigKept(t *testing.T) {
	room := []api.Type{api.I32, api.I64, api.I32, 9, 9, 9}
	s := types.Sig{Params: room[:1], Results: room[2:4]}
	was := slices.Clone(room)
	s.Right()
	s.Print()
	types.Same(s, s)
	types.Same(s, types.Sig{})
	if !slices.Equal(room, was) {
		t.Errorf("what was handed in: %v", room)
	}
	a, _ := types.ParseSig("(i32,i64)->(i32,i64)")
	b, _ := types.ParseSig("(i32,i64)->(i32,i64)")
	for _, l := range [][]api.Type{a.Params[:cap(a.Params)], b.Results[:cap(b.Results)]} {
		for i := range l {
			l[i] = 3
		}
	}
	want := types.Sig{Params: both, Results: both}
	if !slices.Equal(a.Results, want.Results) || !slices.Equal(b.Params, want.Params) {
		t.Errorf("lists share: %v, %v", a, b)
	}
	if c, e := types.ParseSig("(i32,i64)->(i32,i64)"); e != api.OK || !alike(c, want) {
		t.Errorf("ParseSig behind: %v, %d", c, e)
	}
}

// numbers are ends of what limits may be, and what is beyond.
var numbers = []int{math.MinInt, math.MinInt32, -2, -1, 0, 1, 2, 3, 5, 9, 10, 65535, 65536, 65537, 1_000_000_000, math.MaxInt32, math.MaxInt - 1, math.MaxInt}

// TestLimitsRight is of P9.2: Min from 0 to most, and Max, if there is one, from Min to most.
func TestLimitsRight(t *testing.T) {
	for _, c := range []struct {
		l    types.Limits
		most int
		want bool
	}{
		{types.Limits{Min: 0, Max: 0}, 0, true}, {types.Limits{Min: 0, Max: -1}, 0, true}, {types.Limits{Min: 0, Max: -1}, -1, false}, {types.Limits{Min: 1, Max: -1}, 0, false},
		{types.Limits{Min: 0, Max: 1}, 0, false}, {types.Limits{Min: -1, Max: -1}, 5, false}, {types.Limits{Min: -1, Max: 3}, 5, false}, {types.Limits{Min: 5, Max: 5}, 5, true},
		{types.Limits{Min: 5, Max: 4}, 5, false}, {types.Limits{Min: 4, Max: 5}, 5, true}, {types.Limits{Min: 4, Max: 6}, 5, false}, {types.Limits{Min: 6, Max: 6}, 5, false},
		{types.Limits{Min: 3, Max: math.MinInt}, 5, true}, {types.Limits{Min: 65536, Max: 65536}, 65536, true}, {types.Limits{Min: 0, Max: 65537}, 65536, false},
	} {
		if got := c.l.Right(c.most); got != c.want {
			t.Errorf("Right(%d) of %v: %t", c.most, c.l, got)
		}
	}
	for _, low := range numbers {
		for _, high := range numbers {
			for _, n := range numbers {
				want := 0 <= low && low <= n && (high < 0 || low <= high && high <= n)
				for _, wide := range []bool{false, true} {
					l := types.Limits{Min: low, Max: high, Wide: wide}
					if got := l.Right(n); got != want {
						t.Errorf("Right(%d) of %v: %t", n, l, got)
					}
				}
			}
		}
	}
}

// TestMost is of P9.2: Max, or what is handed in, if there is none.
func TestMost(t *testing.T) {
	for _, low := range numbers {
		for _, high := range numbers {
			for _, n := range numbers {
				want := high
				if high < 0 {
					want = n
				}
				for _, wide := range []bool{false, true} {
					l := types.Limits{Min: low, Max: high, Wide: wide}
					if got := l.Most(n); got != want {
						t.Errorf("Most(%d) of %v: %d", n, l, got)
					}
				}
			}
		}
	}
}

// TestLimitsPrint is of P9.2: the text, of numbers below 0 too.
func TestLimitsPrint(t *testing.T) {
	for _, c := range []struct {
		l    types.Limits
		want string
	}{
		{types.Limits{}, "0 0"}, {types.Limits{Wide: true}, "0 0 i64"}, {types.Limits{Max: -1}, "0 -"}, {types.Limits{Min: 1, Max: -1, Wide: true}, "1 - i64"},
		{types.Limits{Min: 1, Max: 2}, "1 2"}, {types.Limits{Min: 10, Max: 65536, Wide: true}, "10 65536 i64"}, {types.Limits{Min: 5, Max: 3}, "5 3"},
		{types.Limits{Min: 1, Max: -2}, "1 -"}, {types.Limits{Min: 1, Max: math.MinInt64}, "1 -"}, {types.Limits{Min: -1, Max: -1}, "-1 -"},
		{types.Limits{Min: math.MinInt64, Max: math.MaxInt64, Wide: true}, "-9223372036854775808 9223372036854775807 i64"},
		{types.Limits{Min: 1_000_000_000, Max: 1_000_000_001}, "1000000000 1000000001"},
	} {
		if got := c.l.Print(); got != c.want {
			t.Errorf("Print of %v: %q", c.l, got)
		}
	}
}
