package side_test

import (
	"slices"
	"strings"
	"testing"

	"grommet/api"
	"grommet/check"
	"grommet/code"
	"grommet/instr"
	"grommet/module"
	"grommet/side"
)

// opens tells whether a block begins.
func opens(x instr.Instr) bool {
	return 2 <= x.Code && x.Code <= 4
}

// around is where the block begins that stands around a place, n blocks farther out than the innermost one; -1: the function.
func around(l []instr.Instr, at, n int) int {
	closed := 0
	for at--; at >= 0; at-- {
		switch {
		case l[at].Code == 11:
			closed++
		case opens(l[at]) && closed > 0:
			closed--
		case opens(l[at]) && n > 0:
			n--
		case opens(l[at]):
			return at
		}
	}
	return -1
}

// parts are where the else, or -1, and the end stand of the block that begins at a place.
func parts(l []instr.Instr, at int) (int, int) {
	other, open := -1, 0
	for at++; ; at++ {
		switch {
		case opens(l[at]):
			open++
		case l[at].Code == 5 && open == 0:
			other = at
		case l[at].Code == 11 && open == 0:
			return other, at
		case l[at].Code == 11:
			open--
		}
	}
}

// slow is the jump of a label, looked for from its branch on.
func slow(l []instr.Instr, heights []int, results, at, n int) side.Jump {
	begin := around(l, at, n)
	if begin < 0 {
		return side.Jump{To: len(l), Keep: results}
	}
	_, end := parts(l, begin)
	j := side.Jump{To: end + 1, Height: heights[begin]}
	if l[begin].A != 64 {
		j.Keep = 1
	}
	switch l[begin].Code {
	case 3:
		j.To, j.Keep = begin+1, 0
	case 4:
		j.Height = max(j.Height, 1) - 1
	}
	return j
}

// labels are those of an instruction.
func labels(x instr.Instr) []uint64 {
	switch x.Code {
	case 12, 13:
		return []uint64{x.A}
	case 14:
		return append(slices.Clone(x.L), x.A)
	}
	return nil
}

// agree holds all that is told of a function against what is found by looking through its body, and P18.3; it answers how many jumps there are.
func agree(t *testing.T, m *module.Module, results int) int {
	t.Helper()
	b := m.Funcs[looked].Body
	heights, _ := check.Heights(m, looked)
	s, e := side.New(m, looked)
	if e != api.OK {
		t.Fatalf("%s: %d", strings.Join(code.Print(b), "; "), e)
	}
	var all, skips []string
	for at, x := range b.L {
		for _, n := range labels(x) {
			j := slow(b.L, heights, results, at, int(n))
			if j.To < 0 || j.To > len(b.L) {
				t.Fatalf("%v leads out of the body", j)
			}
			all = append(all, words(at)+": "+words(j.To, j.Keep, j.Height))
		}
		switch x.Code {
		case 4:
			other, end := parts(b.L, at)
			if other >= 0 {
				end = other + 1
			}
			skips = append(skips, words(at, end))
		case 5:
			_, end := parts(b.L, around(b.L, at, 0))
			skips = append(skips, words(at, end))
		}
	}
	j, k := told(t, s, len(b.L))
	if wantJ, wantK := strings.Join(all, ", "), strings.Join(skips, ", "); j != wantJ || k != wantK {
		t.Fatalf("%s: %q, %q, not %q, %q", strings.Join(code.Print(b), "; "), j, k, wantJ, wantK)
	}
	return len(all)
}

// TestRows is of P18.1 and P18.3: rows of instructions, each of whose jumps and skips is looked for anew.
func TestRows(t *testing.T) {
	d, all := dice(11), row(strings.ReplaceAll(pieces, "\n", ";"))
	jumps := 0
	for range 400 {
		s := []string{"(i32)->()", "(i32)->(i32)", "(i32)->(i64,i32)"}[d.next(3)]
		m := with(s, nil)
		d.grown(m, all, 5+d.next(30))
		jumps += agree(t, m, len(sig(s).Results))
	}
	if jumps < 1200 {
		t.Errorf("but %d jumps", jumps)
	}
}
