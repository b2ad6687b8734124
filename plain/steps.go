package plain

import (
	"grommet/api"
	"grommet/instr"
	"grommet/numeric"
	"grommet/op"
)

// The codes of instructions that steps look for, or put in.
const (
	noOp          = -1
	opUnreachable = 0
	opNop         = 1
	opBlock       = 2
	opLoop        = 3
	opIf          = 4
	opElse        = 5
	opEnd         = 11
	opBr          = 12
	opBrTable     = 14
	opReturn      = 15
	opDrop        = 26
	opLocalGet    = 32
	opLocalSet    = 33
	opLocalTee    = 34
	opGlobalGet   = 35
	opConst32     = 65
	opConst64     = 66
)

// reach is how many instructions a step looks at, from its place on, at most.
const reach = 3

// change is what a step does at its place: how many instructions it takes out, and what it puts in for them, which is less. One that can't be done there takes out none.
type change struct {
	out int
	in  []instr.Instr
}

// steps are all, in their order. Each one is asked about a row, that begins at its place.
func steps() [6]func(row []instr.Instr) change {
	return [...]func(row []instr.Instr) change{nop, one, two, unused, tee, dead}
}

// first is the first step that can be done where a row begins, and its number; 0, if none can be.
func first(row []instr.Instr) (change, int) {
	for i, step := range steps() {
		if c := step(row); c.out > 0 {
			return c, i + 1
		}
	}
	return change{}, 0
}

// code is that of a row's i-th instruction; of one that there isn't that of no op.
func code(row []instr.Instr, i int) int {
	if i >= len(row) {
		return noOp
	}
	return row[i].Code
}

// constant tells whether an instruction of this code gives a word that it has.
func constant(code int) bool {
	return code == opConst32 || code == opConst64
}

// given is the Const of what an instruction of this code gives.
func given(code int, v uint64) []instr.Instr {
	x := instr.Instr{Code: opConst64, A: v}
	if info, _ := op.Find(code); info.Gives[0] == api.I32 {
		x.Code = opConst32
	}
	return []instr.Instr{x}
}

// nop leaves out what does nothing.
func nop(row []instr.Instr) change {
	if code(row, 0) != opNop {
		return change{}
	}
	return change{out: 1}
}

// one works out what takes a word that is known.
func one(row []instr.Instr) change {
	does := code(row, 1)
	if !constant(code(row, 0)) || numeric.Takes(does) != 1 {
		return change{}
	}
	v, _ := numeric.One(does, row[0].A)
	return change{2, given(does, v)}
}

// two works out what takes two words that are known, and doesn't trap.
func two(row []instr.Instr) change {
	does := code(row, 2)
	if !constant(code(row, 0)) || !constant(code(row, 1)) || numeric.Takes(does) != 2 {
		return change{}
	}
	v, trap, _ := numeric.Two(does, row[0].A, row[1].A)
	if trap != api.NoTrap {
		return change{}
	}
	return change{3, given(does, v)}
}

// unused leaves out what gives a word that is dropped.
func unused(row []instr.Instr) change {
	gives := code(row, 0)
	if !constant(gives) && gives != opLocalGet && gives != opGlobalGet || code(row, 1) != opDrop {
		return change{}
	}
	return change{out: 2}
}

// tee lets a local be set and had by one instruction.
func tee(row []instr.Instr) change {
	if code(row, 0) != opLocalSet || code(row, 1) != opLocalGet || row[0].A != row[1].A {
		return change{}
	}
	return change{2, []instr.Instr{{Code: opLocalTee, A: row[0].A}}}
}

// dead leaves out what stands where nothing is reached.
func dead(row []instr.Instr) change {
	if len(row) < 2 || !leaves(row[0].Code) || bounds(row[1].Code) {
		return change{}
	}
	return change{2, row[:1]}
}

// leaves tells whether what stands behind an instruction isn't reached from it.
func leaves(code int) bool {
	return code == opUnreachable || code == opBr || code == opBrTable || code == opReturn
}

// bounds tells whether a block, or a part of one, begins or ends with an instruction.
func bounds(code int) bool {
	return code == opBlock || code == opLoop || code == opIf || code == opElse || code == opEnd
}
