package side_test

import (
	"slices"

	"grommet/api"
	"grommet/check"
	"grommet/instr"
	"grommet/module"
)

// dice counts on, and is the same each time.
type dice uint64

func (d *dice) next(n int) int {
	*d = *d*6364136223846793005 + 1442695040888963407
	return int(uint64(*d) >> 33 % uint64(n))
}

// leaves tells whether what stands behind an instruction isn't reached from it.
func leaves(x instr.Instr) bool {
	return x.Code == 0 || x.Code == 12 || x.Code == 14 || x.Code == 15
}

// fine tells whether a row is well typed, if unreachable stands ahead of each end that it hasn't yet.
func fine(m *module.Module, l []instr.Instr) bool {
	m.Funcs[looked].Body.L = ended(l)
	_, e := check.Func(m, looked)
	return e == api.OK
}

// starts are rows that bodies begin with, so that some stand on what is kept below.
var starts = []string{"nop", "i32.const 8", "i32.const 6; i64.const 7; block i32; i32.const 8; i32.const 9", "i64.const 7; loop i32; i32.const 8; block i32; i32.const 9"}

// grown is a well typed body, of one of the starts, of some n pieces, each of which may stand where it stands, and of what ends its blocks.
func (d *dice) grown(m *module.Module, pieces []instr.Instr, n int) []instr.Instr {
	l := row(starts[d.next(len(starts))])
	n += len(l)
	for range 6 * n {
		if len(l) >= n {
			break
		}
		x := pieces[d.next(len(pieces))]
		if leaves(x) && around(l, len(l), 0) < 0 && d.next(8) > 0 {
			// Nothing behind it would be reached.
			continue
		}
		if next := append(slices.Clip(l), x); fine(m, next) {
			l = next
		}
	}
	for around(l, len(l), 0) >= 0 {
		l = ending(m, l)
	}
	m.Funcs[looked].Body.L = ending(m, l)
	return m.Funcs[looked].Body.L
}

// ending is a row with its innermost block, or a part of it, or the body being ended, by as little as may be.
func ending(m *module.Module, l []instr.Instr) []instr.Instr {
	for _, ahead := range []string{"", "i32.const 9; ", "i64.const 9; ", "drop; ", "i64.const 9; i32.const 9; ", "drop; drop; ", "drop; drop; drop; ", "unreachable; "} {
		if around(l, len(l), 0) < 0 {
			m.Funcs[looked].Body.L = append(slices.Clip(l), row(ahead+"end")...)
			if _, e := check.Func(m, looked); e == api.OK {
				return m.Funcs[looked].Body.L
			}
			continue
		}
		for _, part := range []string{"end", "else"} {
			if next := append(slices.Clip(l), row(ahead+part)...); fine(m, next) {
				return next
			}
		}
	}
	panic("no end")
}

// ended is a row with the ends of its blocks, each behind unreachable, and behind an else, if there is none yet.
func ended(l []instr.Instr) []instr.Instr {
	stop, half, end := instr.Instr{}, instr.Instr{Code: 5}, instr.Instr{Code: 11}
	out := append(slices.Clip(l), stop)
	for begin := around(l, len(l), 0); begin >= 0; begin = around(out, len(out), 0) {
		if other, _ := parts(append(slices.Clip(out), end), begin); l[begin].Code == 4 && other < 0 {
			out = append(out, half, stop)
		}
		out = append(out, end, stop)
	}
	return append(out, end)
}

// pieces are instructions that branch, or lay something onto the stack for these.
const pieces = `block; block i32; block i64; loop; loop i32; loop i64; if; if; if i32; if i32; if i64; else; else; end; end; end; br 0; br 1; br 2; br 3
br_if 0; br_if 0; br_if 1; br_if 1; br_if 2; br_if 3; br_table 0; br_table 0 1; br_table 1 0; br_table 1 1 1; br_table 2 0 1 0; br_table 0 2; return
unreachable; nop; drop; select; i32.const 0; i32.const 1; i32.const 2; i32.const 3; i64.const 4; i64.const 5; local.get 0; local.get 0; local.set 0; local.tee 0
i32.add; i32.sub; i32.eqz; i64.extend_i32_s; i32.wrap_i64`
