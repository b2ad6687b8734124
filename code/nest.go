package code

import (
	"grommet/api"
	"grommet/instr"
)

// The codes of instructions that begin, part and end blocks.
const (
	opBlock = 2
	opLoop  = 3
	opIf    = 4
	opElse  = 5
	opEnd   = 11
)

const noElse = -1

// Span is where a block stands.
type Span struct {
	Begin, Else, End int
}

// Spans is all blocks.
func Spans(l []instr.Instr) ([]Span, int, api.Errno) {
	n, e := through(l)
	if e != api.OK {
		return nil, n.at, e
	}
	return n.spans, 0, api.OK
}

// Deep is how deep blocks stand in one another.
func Deep(l []instr.Instr) int {
	n, e := through(l)
	if e != api.OK {
		return 0
	}
	return n.deepest
}

// nest is the blocks of a body that is gone through, up to a place.
type nest struct {
	at      int
	spans   []Span
	open    []opened // the outermost first
	deepest int
	closed  bool
}

// opened is a block that has no end yet.
type opened struct {
	span  int  // which of the spans
	parts bool // whether its else may stand here
}

// through goes through a body, up to its end, or to what can't stand there.
func through(l []instr.Instr) (nest, api.Errno) {
	var n nest
	for _, x := range l {
		if e := n.step(x.Code); e != api.OK {
			return n, e
		}
	}
	if !n.closed {
		return n, api.ErrForm
	}
	return n, api.OK
}

// step goes over an instruction that may stand here.
func (n *nest) step(code int) api.Errno {
	if e := n.stand(code); e != api.OK {
		return e
	}
	n.at++
	return api.OK
}

// stand is OK, if an instruction may stand here, and takes what it does to blocks.
func (n *nest) stand(code int) api.Errno {
	switch {
	case n.closed:
		return api.ErrForm
	case opens(code):
		return n.begin(code == opIf)
	case code == opElse:
		return n.part()
	case code == opEnd:
		n.end()
	}
	return api.OK
}

// opens tells whether a block begins.
func opens(code int) bool {
	return code == opBlock || code == opLoop || code == opIf
}

// begin opens a block.
func (n *nest) begin(parts bool) api.Errno {
	if len(n.open) == api.MaxDeep {
		return api.ErrLong
	}
	n.open = append(n.open, opened{len(n.spans), parts})
	n.spans = append(n.spans, Span{n.at, noElse, 0})
	n.deepest = max(n.deepest, len(n.open))
	return api.OK
}

// part is an else.
func (n *nest) part() api.Errno {
	i := len(n.open) - 1
	if i < 0 || !n.open[i].parts {
		return api.ErrForm
	}
	n.open[i].parts = false
	n.spans[n.open[i].span].Else = n.at
	return api.OK
}

// end ends the innermost block, or the body.
func (n *nest) end() {
	i := len(n.open) - 1
	if i < 0 {
		n.closed = true
		return
	}
	n.spans[n.open[i].span].End = n.at
	n.open = n.open[:i]
}
