package code_test

import (
	"slices"
	"strings"
	"testing"

	"grommet/api"
	"grommet/code"
	"grommet/instr"
)

// letters are instructions, a letter each: b block, l loop, i if, e else, . end, n nop, c a const, w one that isn't right.
func letters(s string) []instr.Instr {
	var l []instr.Instr
	for _, c := range s {
		l = append(l, map[rune]instr.Instr{'b': {Code: 2, A: 64}, 'l': {Code: 3, A: 127}, 'i': {Code: 4, A: 126}, 'e': {Code: 5}, '.': {Code: 11}, 'n': {Code: 1}, 'c': {Code: 65, A: 7}, 'w': {Code: 6}}[c])
	}
	return l
}

// deep is so many blocks, one within the other, what stands in the innermost, and their ends.
func deep(n int, inner string) string {
	return strings.Repeat("b", n) + inner + strings.Repeat(".", n)
}

// TestSpans is of P12.1: blocks, or the first place where one can't stand.
func TestSpans(t *testing.T) {
	for _, c := range []struct {
		l     string
		spans []code.Span
		deep  int
		at    int
		e     api.Errno
	}{
		{".", nil, 0, 0, api.OK},
		{"nnc.", nil, 0, 0, api.OK},
		{"b..", []code.Span{{0, -1, 1}}, 1, 0, api.OK},
		{"nbn.n.", []code.Span{{1, -1, 3}}, 1, 0, api.OK},
		{"l..", []code.Span{{0, -1, 1}}, 1, 0, api.OK},
		{"i..", []code.Span{{0, -1, 1}}, 1, 0, api.OK},
		{"ie..", []code.Span{{0, 1, 2}}, 1, 0, api.OK},
		{"ncinnenn.n.", []code.Span{{2, 5, 8}}, 1, 0, api.OK},
		{"b.l.i..", []code.Span{{0, -1, 1}, {2, -1, 3}, {4, -1, 5}}, 1, 0, api.OK},
		{"bl.i.e..", nil, 0, 5, api.ErrForm},
		{"bl.ie...", []code.Span{{0, -1, 6}, {1, -1, 2}, {3, 4, 5}}, 2, 0, api.OK},
		{"iie.eb.l...", []code.Span{{0, 4, 9}, {1, 2, 3}, {5, -1, 6}, {7, -1, 8}}, 2, 0, api.OK},
		{"ieie...", []code.Span{{0, 1, 5}, {2, 3, 4}}, 2, 0, api.OK},
		{"bb.bbb.....", []code.Span{{0, -1, 9}, {1, -1, 2}, {3, -1, 8}, {4, -1, 7}, {5, -1, 6}}, 4, 0, api.OK},
		{"bbb...b..", []code.Span{{0, -1, 5}, {1, -1, 4}, {2, -1, 3}, {6, -1, 7}}, 3, 0, api.OK},
		{"w.", nil, 0, 0, api.OK},
		{"bw..", []code.Span{{0, -1, 2}}, 1, 0, api.OK},
		{"", nil, 0, 0, api.ErrForm},
		{"n", nil, 0, 1, api.ErrForm},
		{"b", nil, 0, 1, api.ErrForm},
		{"b.", nil, 0, 2, api.ErrForm},
		{"ie.", nil, 0, 3, api.ErrForm},
		{"b.n", nil, 0, 3, api.ErrForm},
		{"e", nil, 0, 0, api.ErrForm},
		{"ne.", nil, 0, 1, api.ErrForm},
		{"be..", nil, 0, 1, api.ErrForm},
		{"le..", nil, 0, 1, api.ErrForm},
		{"iee..", nil, 0, 2, api.ErrForm},
		{"ibe...", nil, 0, 2, api.ErrForm},
		{"i.e.", nil, 0, 2, api.ErrForm},
		{"ieb.e..", nil, 0, 4, api.ErrForm},
		{"..", nil, 0, 1, api.ErrForm},
		{".n", nil, 0, 1, api.ErrForm},
		{".b..", nil, 0, 1, api.ErrForm},
		{".w", nil, 0, 1, api.ErrForm},
		{"b...", nil, 0, 3, api.ErrForm},
		{"b..e", nil, 0, 3, api.ErrForm},
		{".nnnnn.", nil, 0, 1, api.ErrForm},
	} {
		told(t, c.l, c.spans, c.at, c.e, c.deep)
	}
}

// told holds Spans and Deep.
func told(t *testing.T, s string, spans []code.Span, at int, e api.Errno, deep int) {
	t.Helper()
	l := letters(s)
	got, n, e2 := code.Spans(l)
	if !slices.Equal(got, spans) || n != at || e2 != e || e != api.OK && got != nil {
		t.Errorf("Spans of %.80q: %v, %d, %d, not %v, %d, %d", s, got, n, e2, spans, at, e)
	}
	if d := code.Deep(l); d != deep {
		t.Errorf("Deep of %.80q: %d, not %d", s, d, deep)
	}
}

// TestSpansDeep is of P12.1: 64 blocks within one another, and one more.
func TestSpansDeep(t *testing.T) {
	spans := func(n int) []code.Span {
		var l []code.Span
		for i := range n {
			l = append(l, code.Span{Begin: i, Else: -1, End: 2*n - 1 - i})
		}
		return l
	}
	for _, n := range []int{1, 2, 63, 64} {
		told(t, deep(n, "")+".", spans(n), 0, api.OK, n)
		told(t, deep(n, ""), nil, 2*n, api.ErrForm, 0)
		told(t, deep(n, "")+"..", nil, 2*n+1, api.ErrForm, 0)
	}
	for _, inner := range []string{"b.", "l.", "i.", "ie.", "b", "bbb", "be.", "b..e"} {
		told(t, deep(64, inner)+".", nil, 64, api.ErrLong, 0)
		told(t, deep(64, "nn"+inner)+".", nil, 66, api.ErrLong, 0)
		told(t, "n.e"+deep(64, inner)+".", nil, 2, api.ErrForm, 0)
		told(t, "ne"+deep(64, inner)+".", nil, 1, api.ErrForm, 0)
	}
	told(t, deep(64, "e")+".", nil, 64, api.ErrForm, 0)
	told(t, strings.Repeat("b", 65), nil, 64, api.ErrLong, 0)
	told(t, strings.Repeat("b", 64), nil, 64, api.ErrForm, 0)
	if d := code.Deep(letters(strings.Repeat(deep(64, ""), 50) + deep(3, "n") + ".")); d != 64 {
		t.Errorf("Deep of many: %d", d)
	}
	if d := code.Deep(letters(strings.Repeat(deep(3, ""), 100) + ".")); d != 3 {
		t.Errorf("Deep of blocks that stand behind one another: %d", d)
	}
	many := letters(strings.Repeat("b.", 100000) + ".")
	if l, at, e := code.Spans(many); len(l) != 100000 || l[99999] != (code.Span{Begin: 199998, Else: -1, End: 199999}) || at != 0 || e != api.OK {
		t.Errorf("Spans of many: %d, %d, %d", len(l), at, e)
	}
}

// find tells of letters by what stands where: the end of what begins at a place, or the first place that can't be, and how deep.
type find struct {
	s     string
	spans map[int]code.Span
	bad   int
	deep  int
}

// until goes on to an end, or to an else where one may be; it answers that place, or -1.
func (f *find) until(at, depth int, parts bool) int {
	f.deep = max(f.deep, depth)
	for ; at < len(f.s); at++ {
		switch f.s[at] {
		case '.':
			return at
		case 'e':
			if parts {
				return at
			}
			f.bad = at
			return -1
		case 'b', 'l', 'i':
			span := code.Span{Begin: at, Else: -1}
			end := f.until(at+1, depth+1, f.s[at] == 'i')
			if end >= 0 && f.s[end] == 'e' {
				span.Else = end
				end = f.until(end+1, depth+1, false)
			}
			if end < 0 {
				return -1
			}
			span.End, at = end, end
			f.spans[span.Begin] = span
		}
	}
	f.bad = at
	return -1
}

// TestSpansAll is of P12.1: all rows of up to seven instructions.
func TestSpansAll(t *testing.T) {
	rows := []string{""}
	for i := 0; len(rows[i]) < 7; i++ {
		for _, c := range "bie.n" {
			rows = append(rows, rows[i]+string(c))
		}
	}
	for _, s := range rows {
		f := find{s: s, spans: map[int]code.Span{}}
		end := f.until(0, 0, false)
		if end < 0 {
			told(t, s, nil, f.bad, api.ErrForm, 0)
		} else if end < len(s)-1 {
			told(t, s, nil, end+1, api.ErrForm, 0)
		} else {
			var spans []code.Span
			for i := range s {
				if x, ok := f.spans[i]; ok {
					spans = append(spans, x)
				}
			}
			told(t, s, spans, 0, api.OK, f.deep)
		}
	}
}

// TestSpansNumbers is of P12.1: where blocks stand hangs on codes alone, whatever their numbers are.
func TestSpansNumbers(t *testing.T) {
	l := []instr.Instr{{Code: 4, A: 5, B: 6}, {Code: 5, L: []uint64{1}}, {Code: 3, Align: -1}, {Code: 11, A: 1}, {Code: 11, B: 1}, {Code: 11, Align: 7}}
	spans, at, e := code.Spans(l)
	if !slices.Equal(spans, []code.Span{{0, 1, 4}, {2, -1, 3}}) || at != 0 || e != api.OK || code.Deep(l) != 2 {
		t.Errorf("%v, %d, %d", spans, at, e)
	}
	for _, c := range []int{-2, -11, 256 + 2, 256 + 11, 1<<32 + 2, 1<<32 + 11, 64512 + 2, 64512 + 11, 10, 12, 1, 6} {
		l := []instr.Instr{{Code: c}, {Code: 11}}
		if spans, at, e := code.Spans(l); spans != nil || at != 0 || e != api.OK || code.Deep(l) != 0 {
			t.Errorf("Spans of the code %d: %v, %d, %d", c, spans, at, e)
		}
	}
}
