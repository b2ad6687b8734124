package side_test

import (
	"slices"
	"strings"
	"testing"

	"grommet/api"
	"grommet/code"
	"grommet/instr"
	"grommet/side"
)

// walker goes through a body, and does what its instructions tell; blocks and branches are done by those that embed it.
type walker struct {
	l     []instr.Instr
	stack []uint64
	local uint64
	trace []string // of each instruction that is no block: where it stands, and the stack ahead of it
	fuel  int
}

// over is that there is no fuel, or that unreachable was reached.
type over struct{}

func (w *walker) pop() uint64 {
	top := len(w.stack) - 1
	v := w.stack[top]
	w.stack = w.stack[:top]
	return v
}

func (w *walker) push(v uint64) {
	w.stack = append(w.stack, v)
}

// keep leaves the topmost ones, and so many below them.
func (w *walker) keep(n, height int) {
	w.stack = append(w.stack[:height], w.stack[len(w.stack)-n:]...)
}

// note notes an instruction ahead of its being done.
func (w *walker) note(at int) {
	var b strings.Builder
	b.WriteString(words(at) + ":")
	for _, v := range w.stack {
		b.WriteString(" " + words(int(v)))
	}
	w.trace = append(w.trace, b.String())
	if w.fuel--; w.fuel < 0 || w.l[at].Code == 0 {
		panic(over{})
	}
}

// plain does an instruction that is neither a block nor a branch.
func (w *walker) plain(x instr.Instr) {
	switch x.Code {
	case 26:
		w.pop()
	case 27:
		c, b, a := w.pop(), w.pop(), w.pop()
		w.push(map[bool]uint64{true: b, false: a}[c == 0])
	case 32:
		w.push(w.local)
	case 33, 34:
		w.local = w.pop()
		if x.Code == 34 {
			w.push(w.local)
		}
	case 65, 66:
		w.push(x.A)
	case 69:
		w.push(map[bool]uint64{true: 1}[w.pop() == 0])
	case 106, 107:
		b, a := w.pop(), w.pop()
		w.push(uint64(uint32(map[bool]uint64{true: a + b, false: a - b}[x.Code == 106])))
	case 167, 172:
		w.push(uint64(int32(w.pop())) & map[bool]uint64{true: 1<<32 - 1, false: 1<<64 - 1}[x.Code == 167])
	}
}

// chosen is which label a branch takes, and whether it takes one.
func (w *walker) chosen(x instr.Instr) (int, bool) {
	switch x.Code {
	case 13:
		return 0, w.pop() != 0
	case 14:
		return int(min(w.pop(), uint64(len(x.L)))), true
	}
	return 0, x.Code == 12
}

// guided goes by a side table.
type guided struct {
	walker
	s    *side.Side
	cuts int // how many jumps kept something, and left something out below it, with more below
}

func (w *guided) walk(results int) {
	at := 0
	for at < len(w.l) {
		x := w.l[at]
		if !opens(x) && x.Code != 5 && x.Code != 11 {
			w.note(at)
		}
		at = w.step(at, x)
		if x.Code == 15 {
			w.keep(results, 0)
			return
		}
	}
	w.keep(results, len(w.stack)-results)
}

// step does an instruction, and is the place of the next one.
func (w *guided) step(at int, x instr.Instr) int {
	if x.Code == 5 || x.Code == 4 && w.pop() == 0 {
		to, _ := w.s.Skip(at)
		return to
	}
	if k, ok := w.chosen(x); ok {
		j, _ := w.s.Label(at, k)
		if j.Keep > 0 && 0 < j.Height && j.Height+j.Keep < len(w.stack) {
			w.cuts++
		}
		w.keep(j.Keep, j.Height)
		return j.To
	}
	w.plain(x)
	return at + 1
}

// nested goes block by block, one within the other.
type nested struct {
	walker
}

const (
	through = -1   // a row was gone through to its end
	out     = 1000 // more blocks than there are
)

// walk goes through a row of instructions, and answers how many blocks more a branch leaves.
func (w *nested) walk(from, to int) int {
	for at := from; at < to; at++ {
		x := w.l[at]
		if opens(x) {
			other, end := parts(w.l, at)
			if left := w.block(at, other, end); left >= 0 {
				return left
			}
			at = end
			continue
		}
		w.note(at)
		if x.Code == 15 {
			return out
		}
		if k, ok := w.chosen(x); ok {
			return int(append(slices.Clone(x.L), x.A)[k])
		}
		w.plain(x)
	}
	return through
}

// block goes through a block, as often as it is a loop, and answers how many blocks more are left.
func (w *nested) block(at, other, end int) int {
	from, to := at+1, end
	if w.l[at].Code == 4 {
		c := w.pop()
		switch {
		case c != 0 && other >= 0:
			to = other
		case c == 0 && other >= 0:
			from = other + 1
		case c == 0:
			return through
		}
	}
	height, results := len(w.stack), map[uint64]int{127: 1, 126: 1}[w.l[at].A]
	left := w.walk(from, to)
	for left == 0 && w.l[at].Code == 3 {
		w.keep(0, height)
		left = w.walk(from, to)
	}
	if left <= 0 {
		w.keep(results, height)
		return through
	}
	return left - 1
}

// until does something, up to its end or till it is over, and tells whether it came to its end.
func until(do func()) (ends bool) {
	defer func() {
		switch x := recover().(type) {
		case nil:
		case over:
			ends = false
		default:
			panic(x)
		}
	}()
	ends = true
	do()
	return
}

// TestWalk is of P18.1: who goes by a side table goes the way of the blocks, with the same stack at each instruction.
func TestWalk(t *testing.T) {
	d, all := dice(5), row(strings.ReplaceAll(strings.ReplaceAll(pieces, "unreachable;", ""), "\n", ";"))
	ended, longest, cuts := 0, 0, 0
	for range 400 {
		results := d.next(3)
		m := with([]string{"(i32)->()", "(i32)->(i32)", "(i32)->(i64,i32)"}[results], nil)
		l := d.grown(m, all, 5+d.next(30))
		s, e := side.New(m, looked)
		if e != api.OK {
			t.Fatal(e)
		}
		for arg := range uint64(4) {
			g := &guided{walker: walker{l: l, local: arg, fuel: 300}, s: s}
			n := &nested{walker{l: l, local: arg, fuel: 300}}
			one := until(func() { g.walk(results) })
			two := until(func() { n.walk(0, len(l)-1); n.keep(results, 0) })
			if one != two || !slices.Equal(g.trace, n.trace) || one && !slices.Equal(g.stack, n.stack) {
				t.Fatalf("%s, of %d: %q, %v, not %q, %v", strings.Join(code.Print(m.Funcs[looked].Body), "; "), arg, g.trace, g.stack, n.trace, n.stack)
			}
			longest = max(longest, len(n.trace))
			cuts += g.cuts
			if one {
				ended++
			}
		}
	}
	if ended < 500 || longest < 300 || cuts < 60 {
		t.Errorf("but %d came to their ends, the longest had %d steps, and %d jumps cut", ended, longest, cuts)
	}
}
