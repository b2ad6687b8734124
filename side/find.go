package side

import (
	"slices"

	"grommet/code"
	"grommet/instr"
)

// The codes of instructions that begin and end blocks, or have labels.
const (
	opBlock   = 2
	opLoop    = 3
	opIf      = 4
	opEnd     = 11
	opBr      = 12
	opBrIf    = 13
	opBrTable = 14
)

// noType is the type of a block that gives nothing.
const noType = 64

// skip finds where ifs and elses go on.
func (s *Side) skip(l []instr.Instr, spans []code.Span) {
	for _, x := range spans {
		switch {
		case l[x.Begin].Code != opIf:
		case x.Else < 0:
			s.skips[x.Begin] = x.End
		default:
			s.skips[x.Begin] = x.Else + 1
			s.skips[x.Else] = x.End
		}
	}
}

// branch finds all jumps: of the function's own label it is handed in, of a block's it is found by where that one begins.
func (s *Side) branch(l []instr.Instr, own Jump, find func(begin int) Jump) {
	open := []Jump{own}
	for at, x := range l {
		switch x.Code {
		case opBlock, opLoop, opIf:
			open = append(open, find(at))
		case opEnd:
			open = open[:len(open)-1]
		case opBr, opBrIf, opBrTable:
			// The last label stands beside the list, which mustn't grow by it.
			labels := slices.Concat(x.L, []uint64{x.A})
			for k, n := range labels {
				s.jumps[label{at, k}] = open[len(open)-1-int(n)]
			}
			s.counts[at] = len(labels)
		}
	}
}

// finder finds the jump of a block's label by where that one begins.
func finder(l []instr.Instr, spans []code.Span, heights []int) func(begin int) Jump {
	behind := func(begin int) int {
		i, _ := slices.BinarySearchFunc(spans, begin, func(x code.Span, at int) int { return x.Begin - at })
		return spans[i].End + 1
	}
	return func(begin int) Jump {
		height, x := heights[begin], l[begin]
		switch x.Code {
		case opLoop:
			return Jump{begin + 1, 0, height}
		case opIf:
			// Its I32 may have been taken from nothing.
			height = max(height-1, 0)
		}
		return Jump{behind(begin), results(x), height}
	}
}

// results is how many a block gives.
func results(x instr.Instr) int {
	if x.A == noType {
		return 0
	}
	return 1
}
