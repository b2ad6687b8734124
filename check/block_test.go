package check_test

import (
	"strings"
	"testing"

	"grommet/api"
)

// TestBlocks is of P16.1 and P16.2: blocks and loops give just their results, and take nothing that stands below them.
func TestBlocks(t *testing.T) {
	for _, b := range []string{"block", "loop"} {
		fine(t, "()->()", "", b+"; end; end", 0, 0, 0)
		fine(t, "()->()", "", b+"; "+b+"; end; end; end", 0, 0, 0, 0, 0)
		fine(t, "()->(i32)", "", b+" i32; i32.const 1; end; end", 0, 0, 1, 1)
		fine(t, "()->(i32,i64)", "", "i32.const 1; "+b+" i64; i64.const 1; end; end", 0, 1, 1, 2, 2)
		fine(t, "()->(i32)", "", "i32.const 1; "+b+"; end; end", 0, 1, 1, 1)
		fine(t, "()->(i64)", "", b+" i64; "+b+" i64; i64.const 1; end; i64.const 2; drop; end; end", 0, 0, 0, 1, 1, 2, 1, 1)
		wrong(t, "()->(i32)", "", b+" i32; end; end", 1, api.ErrType)
		wrong(t, "()->(i32)", "", b+" i32; i64.const 1; end; end", 2, api.ErrType)
		wrong(t, "()->(i32)", "", b+" i32; i32.const 1; i32.const 1; end; end", 3, api.ErrType)
		wrong(t, "()->(i32)", "", b+" i32; i64.const 1; i32.const 1; end; end", 3, api.ErrType)
		wrong(t, "()->(i32)", "", "i32.const 1; "+b+" i32; end; end", 2, api.ErrType)
		wrong(t, "()->(i32)", "", "i32.const 1; "+b+" i32; i32.const 1; end; end", 4, api.ErrType)
		wrong(t, "()->()", "", b+"; i32.const 1; end; end", 2, api.ErrType)
		wrong(t, "()->()", "", b+" i64; i64.const 1; end; end", 3, api.ErrType)
		wrong(t, "()->(i32)", "", b+"; i32.const 1; end; end", 2, api.ErrType)
		wrong(t, "()->(i32)", "", b+" i64; i64.const 1; end; end", 3, api.ErrType)
		wrong(t, "()->()", "", "i32.const 1; "+b+"; drop; end; end", 2, api.ErrType)
		// Behind a block nothing of what stood in it is left but its results.
		fine(t, "()->()", "", b+"; unreachable; end; end", 0, 0, 0, 0)
		wrong(t, "()->(i32)", "", b+"; unreachable; end; end", 3, api.ErrType)
		wrong(t, "()->()", "", b+"; unreachable; end; drop; end", 3, api.ErrType)
		fine(t, "()->(i32)", "", b+" i32; unreachable; end; end", 0, 0, 0, 1)
	}
}

// TestFunction is of P16.1: the function's own end has just its results above nothing.
func TestFunction(t *testing.T) {
	fine(t, "()->()", "", "end", 0)
	fine(t, "()->(i64,i32)", "", "i64.const 1; i32.const 1; end", 0, 1, 2)
	wrong(t, "()->(i64,i32)", "", "i32.const 1; i64.const 1; end", 2, api.ErrType)
	wrong(t, "()->(i64,i32)", "", "i32.const 1; end", 1, api.ErrType)
	wrong(t, "()->(i64,i32)", "", "i64.const 1; end", 1, api.ErrType)
	wrong(t, "()->(i64,i32)", "", "i64.const 1; i64.const 1; i32.const 1; end", 3, api.ErrType)
	wrong(t, "()->(i64)", "", "end", 0, api.ErrType)
	// Parameters are locals, and not on the stack.
	wrong(t, "(i32)->(i32)", "", "end", 0, api.ErrType)
	wrong(t, "(i32)->()", "", "drop; end", 0, api.ErrType)
	many := "()->(" + strings.Repeat("i32,i64,", 9) + "i32,i64)"
	l := make([]int, 21)
	for i := range l {
		l[i] = i
	}
	fine(t, many, "", strings.Repeat("i32.const 1; i64.const 1; ", 10)+"end", l...)
	wrong(t, many, "", strings.Repeat("i64.const 1; i32.const 1; ", 10)+"end", 20, api.ErrType)
}

// TestIf is of P16.1: if takes an i32; each of its parts gives its results; one without an else has none.
func TestIf(t *testing.T) {
	fine(t, "()->()", "", "i32.const 1; if; end; end", 0, 1, 0, 0)
	fine(t, "()->()", "", "i32.const 1; if; nop; else; nop; end; end", 0, 1, 0, 0, 0, 0, 0)
	fine(t, "()->(i64)", "", "i32.const 1; if i64; i64.const 1; else; i64.const 2; end; end", 0, 1, 0, 1, 0, 1, 1)
	fine(t, "()->(i64,i32)", "", "i64.const 1; i32.const 1; if i32; i32.const 1; else; i32.const 2; end; end", 0, 1, 2, 1, 2, 1, 2, 2)
	wrong(t, "()->()", "", "if; end; end", 0, api.ErrType)
	wrong(t, "()->()", "", "i64.const 1; if; end; end", 1, api.ErrType)
	wrong(t, "()->()", "", "i32.const 1; if; drop; end; end", 2, api.ErrType)
	wrong(t, "()->(i32)", "", "i32.const 1; i32.const 1; if; else; drop; end; end", 4, api.ErrType)
	wrong(t, "()->(i32)", "", "i32.const 1; if i32; else; i32.const 1; end; end", 2, api.ErrType)
	wrong(t, "()->(i32)", "", "i32.const 1; if i32; i64.const 1; else; i32.const 1; end; end", 3, api.ErrType)
	wrong(t, "()->(i32)", "", "i32.const 1; if i32; i32.const 1; i32.const 1; else; i32.const 1; end; end", 4, api.ErrType)
	wrong(t, "()->(i32)", "", "i32.const 1; if i32; i32.const 1; else; end; end", 4, api.ErrType)
	wrong(t, "()->(i32)", "", "i32.const 1; if i32; i32.const 1; else; i64.const 1; end; end", 5, api.ErrType)
	wrong(t, "()->(i32)", "", "i32.const 1; if i32; i32.const 1; else; i32.const 1; i32.const 1; end; end", 6, api.ErrType)
	wrong(t, "()->(i32)", "", "i32.const 1; if i32; i32.const 1; end; end", 3, api.ErrType)
	wrong(t, "()->(i32)", "", "i32.const 1; if i32; unreachable; end; end", 3, api.ErrType)
	wrong(t, "()->()", "", "i32.const 1; if i64; i64.const 1; end; drop; end", 3, api.ErrType)
	wrong(t, "()->()", "", "unreachable; if i64; i64.const 1; end; drop; end", 3, api.ErrType)
	wrong(t, "()->()", "", "i32.const 1; if i64; end; end", 2, api.ErrType)
	// An else of another if makes no difference.
	wrong(t, "()->(i32)", "", "i32.const 1; if i32; i32.const 1; if; else; end; i32.const 1; end; end", 7, api.ErrType)
	fine(t, "()->(i32)", "", "i32.const 1; if i32; i32.const 1; if; end; i32.const 1; else; i32.const 1; end; end", 0, 1, 0, 1, 0, 0, 1, 0, 1, 1)
	// What stands behind unreachable ends at the else, and at the end.
	fine(t, "()->(i32)", "", "i32.const 1; if i32; unreachable; else; i32.const 1; end; end", 0, 1, 0, 0, 0, 1, 1)
	fine(t, "()->(i32)", "", "i32.const 1; if i32; unreachable; i32.add; else; unreachable; i32.add; end; end", 0, 1, 0, 0, 1, 0, 0, 1, 1)
	wrong(t, "()->(i32)", "", "i32.const 1; if i32; unreachable; else; end; end", 4, api.ErrType)
	wrong(t, "()->(i32)", "", "i32.const 1; if; unreachable; else; drop; end; i32.const 1; end", 4, api.ErrType)
	wrong(t, "()->()", "", "i32.const 1; if; nop; else; unreachable; end; drop; end", 6, api.ErrType)
	wrong(t, "()->()", "", "i32.const 1; if; unreachable; i64.const 1; else; end; end", 4, api.ErrType)
	wrong(t, "()->(i64)", "", "i32.const 1; if i64; unreachable; i32.const 1; else; i64.const 1; end; end", 4, api.ErrType)
}

// TestDead is of P16.1 and P16.2: behind unreachable, br, br_table and return anything may be taken, and nothing is left of the stack.
func TestDead(t *testing.T) {
	for _, d := range []string{"unreachable", "br 0", "i32.const 1; br_table 0", "i32.const 1; br_table 0 0", "return"} {
		n := strings.Count(d, ";")
		from := func(l ...int) []int {
			all := []int{0, 1}[:n+1]
			return append(append([]int{}, all...), l...)
		}
		fine(t, "()->()", "", d+"; end", from(0)...)
		fine(t, "()->()", "", d+"; drop; end", from(0, 0)...)
		fine(t, "()->()", "", d+"; i32.add; drop; end", from(0, 1, 0)...)
		fine(t, "()->()", "", d+"; i64.const 1; i64.add; drop; i32.add; drop; end", from(0, 1, 1, 0, 1, 0)...)
		fine(t, "()->()", "", d+"; i64.store 0 0 0; end", from(0, 0)...)
		fine(t, "()->()", "", d+"; block; end; drop; end", from(0, 0, 0, 0)...)
		fine(t, "()->()", "", d+"; block i32; i32.const 1; end; drop; i64.eqz; drop; end", from(0, 0, 1, 1, 0, 1, 0)...)
		fine(t, "()->()", "", d+"; call 0; i32.eqz; drop; drop; end", from(0, 2, 2, 1, 0)...)
		wrong(t, "()->()", "", d+"; i32.const 1; end", n+2, api.ErrType)
		wrong(t, "()->()", "", d+"; i32.const 1; i64.eqz; drop; end", n+2, api.ErrType)
		wrong(t, "()->()", "", d+"; i32.add; end", n+2, api.ErrType)
		wrong(t, "()->()", "", d+"; i32.add; i64.eqz; drop; end", n+2, api.ErrType)
		wrong(t, "()->()", "", d+"; block; drop; end; end", n+2, api.ErrType)
		wrong(t, "()->()", "", d+"; block i32; end; drop; end", n+2, api.ErrType)
	}
	for _, d := range []string{"unreachable", "i64.const 1; br 0", "i64.const 1; i32.const 1; br_table 0", "i64.const 1; return"} {
		n := strings.Count(d, ";")
		from := func(l ...int) []int {
			all := []int{0, 1, 2}[:n+1]
			return append(append([]int{}, all...), l...)
		}
		fine(t, "()->(i64)", "", d+"; end", from(0)...)
		fine(t, "()->(i64)", "", d+"; i64.const 1; end", from(0, 1)...)
		fine(t, "()->(i64)", "", d+"; drop; end", from(0, 0)...)
		wrong(t, "()->(i64)", "", d+"; i32.const 1; end", n+2, api.ErrType)
		wrong(t, "()->(i64)", "", d+"; i64.const 1; i64.const 1; end", n+3, api.ErrType)
		wrong(t, "()->(i64)", "", d+"; i32.const 1; i64.const 1; end", n+3, api.ErrType)
	}
	// What stood below is left alone, and is there again behind the block's end.
	fine(t, "()->(i32)", "", "i32.const 1; block; unreachable; drop; drop; end; end", 0, 1, 1, 1, 1, 1, 1)
	fine(t, "()->(i32)", "", "i32.const 1; i64.const 1; unreachable; end", 0, 1, 2, 0)
	fine(t, "()->(i64,i32)", "", "unreachable; i32.const 1; end", 0, 0, 1)
	wrong(t, "()->(i64,i32)", "", "unreachable; i64.const 1; end", 2, api.ErrType)
	fine(t, "()->(i64,i32)", "", "i32.const 1; i64.const 1; i32.const 1; return; end", 0, 1, 2, 3, 0)
}

// TestBranches is of P16.1: what branches take, and br_if gives again.
func TestBranches(t *testing.T) {
	branches(t, "br ", 0, false)
	branches(t, "i32.const 1; br_if ", 1, true)
	branches(t, "i32.const 1; br_table ", 1, false)
	// A br_if may take from nothing, and gives types that are there.
	fine(t, "()->(i64)", "", "unreachable; br_if 0; end", 0, 0, 1)
	fine(t, "()->(i64)", "", "unreachable; br_if 0; i64.eqz; drop; i64.const 1; end", 0, 0, 1, 1, 0, 1)
	wrong(t, "()->(i64)", "", "unreachable; br_if 0; i32.eqz; drop; i64.const 1; end", 2, api.ErrType)
	fine(t, "()->(i64,i32)", "", "unreachable; br_if 0; end", 0, 0, 2)
	fine(t, "()->(i64)", "", "unreachable; select; i32.const 1; br_if 0; end", 0, 0, 1, 2, 1)
	wrong(t, "()->(i64)", "", "unreachable; select; i32.const 1; br_if 0; i32.eqz; drop; i64.const 1; end", 4, api.ErrType)
	wrong(t, "()->(i64)", "", "i64.const 1; br_if 0; end", 1, api.ErrType)
	wrong(t, "()->(i64)", "", "i64.const 1; i64.const 1; br_if 0; end", 2, api.ErrType)
	wrong(t, "()->(i64)", "", "i64.const 1; br_table 0; end", 1, api.ErrType)
	wrong(t, "()->(i64)", "", "i32.const 1; br_table 0; end", 1, api.ErrType)
	wrong(t, "()->()", "", "br_if 0; end", 0, api.ErrType)
	wrong(t, "()->()", "", "br_table 0; end", 0, api.ErrType)
}

// branches holds a branch that stands behind n instructions of its own, and may give again what its label takes.
func branches(t *testing.T, branch string, n int, again bool) {
	t.Helper()
	after := func(high int, l ...int) []int {
		if !again {
			high = 0
		}
		return append(append([]int{}, l...), high)
	}
	// Ahead of it the stack is as high as told, and n higher, if it has a condition.
	ahead := func(low int) []int {
		if n == 0 {
			return []int{low}
		}
		return []int{low, low + 1}
	}
	join := func(parts ...[]int) []int {
		var l []int
		for _, p := range parts {
			l = append(l, p...)
		}
		return l
	}
	fine(t, "()->()", "", branch+"0; end", join(ahead(0), after(0))...)
	fine(t, "()->(i64)", "", "i64.const 1; "+branch+"0; end", join([]int{0}, ahead(1), after(1))...)
	fine(t, "()->(i64,i32)", "", "i64.const 1; i32.const 1; "+branch+"0; end", join([]int{0, 1}, ahead(2), after(2))...)
	wrong(t, "()->(i64)", "", branch+"0; end", n, api.ErrType)
	wrong(t, "()->(i64)", "", "i32.const 1; "+branch+"0; end", n+1, api.ErrType)
	wrong(t, "()->(i64,i32)", "", "i32.const 1; "+branch+"0; end", n+1, api.ErrType)
	// Labels count from the block that was opened last; a loop's takes nothing.
	fine(t, "()->(i64)", "", "block i64; i64.const 1; "+branch+"0; end; end", join([]int{0, 0}, ahead(1), after(1), []int{1})...)
	fine(t, "()->(i64)", "", "block; i64.const 1; "+branch+"1; drop; end; i64.const 1; end", join([]int{0, 0}, ahead(1), after(1), []int{0, 0, 1})...)
	wrong(t, "()->(i64)", "", "block; "+branch+"1; end; i64.const 1; end", n+1, api.ErrType)
	wrong(t, "()->()", "", "block i64; "+branch+"0; end; drop; end", n+1, api.ErrType)
	fine(t, "()->()", "", "block i64; "+branch+"1; unreachable; end; drop; end", join([]int{0}, ahead(0), after(0), []int{0, 1, 0})...)
	fine(t, "()->()", "", "loop i64; "+branch+"0; unreachable; end; drop; end", join([]int{0}, ahead(0), after(0), []int{0, 1, 0})...)
	fine(t, "()->()", "", "block i32; loop i64; i32.const 1; "+branch+"1; unreachable; end; drop; i32.const 1; end; drop; end",
		join([]int{0, 0, 0}, ahead(1), after(1), []int{0, 1, 0, 1, 1, 0})...)
	wrong(t, "()->()", "", "block i32; loop i64; "+branch+"1; unreachable; end; drop; i32.const 1; end; drop; end", n+2, api.ErrType)
	wrong(t, "()->()", "", "block i32; loop i64; "+branch+"3; unreachable; end; drop; i32.const 1; end; drop; end", n+2, api.ErrRange)
	// What is taken stands in its own block.
	wrong(t, "()->(i64)", "", "i64.const 1; block; "+branch+"1; end; end", n+2, api.ErrType)
	// An if's label gives its results, ahead of its else and behind it.
	fine(t, "()->(i64)", "", "i32.const 1; if i64; i64.const 1; "+branch+"0; else; i64.const 1; "+branch+"0; end; end",
		join([]int{0, 1, 0}, ahead(1), after(1), []int{0}, ahead(1), after(1), []int{1})...)
	wrong(t, "()->(i64)", "", "i32.const 1; if i64; "+branch+"0; else; i64.const 1; end; end", n+2, api.ErrType)
	wrong(t, "()->(i64)", "", "i32.const 1; if i64; i64.const 1; else; "+branch+"0; end; end", n+4, api.ErrType)
	wrong(t, "()->(i64)", "", "i32.const 1; if i64; i64.const 1; end; "+branch+"2; end", 3, api.ErrType)
	// Behind its end there is no label of a block any more.
	wrong(t, "()->()", "", "block; end; "+branch+"1; end", n+2, api.ErrRange)
}

// TestTables is of P16.1: all labels of a br_table have the same types, also behind unreachable.
func TestTables(t *testing.T) {
	const i32, i64 = "i32.const 1; ", "i64.const 1; "
	fine(t, "()->(i64)", "", "block i64; "+i64+i32+"br_table 0 1 0 1; end; end", 0, 0, 1, 2, 0, 1)
	fine(t, "()->()", "", "block; loop i64; "+i32+"br_table 0 1 2 0; end; drop; end; end", 0, 0, 0, 1, 0, 1, 0, 0)
	wrong(t, "()->(i64)", "", "block; "+i64+i32+"br_table 0 1; end; "+i64+"end", 3, api.ErrType)
	wrong(t, "()->(i64)", "", "block; "+i64+i32+"br_table 1 0; end; "+i64+"end", 3, api.ErrType)
	wrong(t, "()->(i64)", "", "block i32; "+i64+i32+"br_table 1 1 0 1; end; drop; "+i64+"end", 3, api.ErrType)
	wrong(t, "()->(i64)", "", "loop i64; "+i64+i32+"br_table 0 1; end; end", 3, api.ErrType)
	wrong(t, "()->(i64)", "", "block i32; unreachable; br_table 0 1; end; drop; "+i64+"end", 2, api.ErrType)
	wrong(t, "()->(i64)", "", "block i32; unreachable; br_table 1 1 0; end; drop; "+i64+"end", 2, api.ErrType)
	wrong(t, "()->(i64)", "", "block i32; unreachable; select; "+i32+"br_table 0 1; end; drop; "+i64+"end", 4, api.ErrType)
	wrong(t, "()->(i64,i64)", "", "block i64; "+i64+i64+i32+"br_table 0 1; end; "+i64+"end", 4, api.ErrType)
	fine(t, "()->(i64)", "", "block i64; unreachable; br_table 0 1; end; end", 0, 0, 0, 0, 1)
	many := "br_table" + strings.Repeat(" 0 1", 50) + " 0"
	fine(t, "()->(i64)", "", "block i64; "+i64+i32+many+"; end; end", 0, 0, 1, 2, 0, 1)
	wrong(t, "()->(i64)", "", "block i64; "+i64+i32+"br_table"+strings.Repeat(" 0", 99)+" 2 0; end; end", 3, api.ErrRange)
}

// TestReturn is of P16.1: return takes the function's results, wherever it stands.
func TestReturn(t *testing.T) {
	fine(t, "()->(i64,i32)", "", "block i32; i64.const 1; i32.const 1; return; end; drop; unreachable; end", 0, 0, 1, 2, 0, 1, 0, 0)
	fine(t, "()->()", "", "loop i32; return; end; drop; end", 0, 0, 0, 1, 0)
	wrong(t, "()->(i64,i32)", "", "block i32; i32.const 1; i64.const 1; return; end; drop; unreachable; end", 3, api.ErrType)
	wrong(t, "()->(i64,i32)", "", "block i32; i32.const 1; return; end; drop; unreachable; end", 2, api.ErrType)
	wrong(t, "()->(i64)", "", "i64.const 1; block; return; end; end", 2, api.ErrType)
	wrong(t, "()->(i64)", "", "return; end", 0, api.ErrType)
}

// TestDeep is of P16.1: labels of as many blocks as may be.
func TestDeep(t *testing.T) {
	open, ends := strings.Repeat("block; ", 64), strings.Repeat("end; ", 64)+"end"
	holds(t, with("()->(i64)", "", "unreachable; "+open+"i64.const 1; br 64; "+ends), "the function's own label")
	wrong(t, "()->(i64)", "", "unreachable; "+open+"i64.const 1; br 65; "+ends, 66, api.ErrRange)
	wrong(t, "()->(i64)", "", "unreachable; "+open+"br 64; "+ends, 65, api.ErrType)
	holds(t, with("()->(i64)", "", "unreachable; "+open+"br 63; "+ends), "the outermost block's label")
}
