package text

// The codes of instructions that begin, part and end blocks.
const (
	opBlock = 2
	opLoop  = 3
	opIf    = 4
	opElse  = 5
	opEnd   = 11
)

// nest is, of a body and its blocks that have no end yet, the outermost first, whether an else may stand in each one now.
type nest []bool

// begun is that of a body that begins.
func begun() nest {
	return nest{false}
}

// step goes over an instruction, and tells whether it can stand there. How deep blocks may be isn't asked: that is told of the whole body.
func (n *nest) step(code int) bool {
	last := len(*n) - 1
	switch code {
	case opBlock, opLoop, opIf:
		*n = append(*n, code == opIf)
	case opElse:
		may := (*n)[last]
		(*n)[last] = false
		return may
	case opEnd:
		*n = (*n)[:last]
	}
	return true
}
