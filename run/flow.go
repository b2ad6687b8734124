package run

import (
	"grommet/api"
	"grommet/instr"
	"grommet/types"
)

// The codes of instructions that tell which one is next.
const (
	opUnreachable  = 0
	opIf           = 4
	opElse         = 5
	opBr           = 12
	opBrIf         = 13
	opBrTable      = 14
	opReturn       = 15
	opCall         = 16
	opCallIndirect = 17
)

// branch does what goes on elsewhere than behind it.
func (m *Machine) branch(x *instr.Instr) bool {
	switch x.Code {
	case opUnreachable:
		m.trap(api.Unreachable)
	case opIf:
		if m.pop() == 0 {
			m.skip()
		}
	case opElse:
		m.skip()
	case opBr:
		m.jump(0)
	case opBrIf:
		if m.pop() != 0 {
			m.jump(0)
		}
	case opBrTable:
		m.jump(int(min(m.pop(), uint64(len(x.L)))))
	case opReturn:
		m.now.Place = len(m.in.body)
	default:
		return false
	}
	return true
}

// skip goes on where an if, or an else, tells.
func (m *Machine) skip() {
	m.now.Place, _ = m.in.side.Skip(m.now.Place - 1)
}

// jump goes on where the k-th label of a branch tells.
func (m *Machine) jump(k int) {
	j, _ := m.in.side.Label(m.now.Place-1, k)
	m.fine(api.NoTrap, m.stack.Unwind(j.Keep, m.now.Base+m.in.locals+j.Height))
	m.now.Place = j.To
}

// calls does calls.
func (m *Machine) calls(x *instr.Instr) bool {
	switch x.Code {
	case opCall:
		m.call(int(x.A))
	case opCallIndirect:
		m.indirect(x, m.pop())
	default:
		return false
	}
	return true
}

// indirect calls the function that stands at a place of the table.
func (m *Machine) indirect(x *instr.Instr, place uint64) {
	f, ok, e := m.state.Entry(int(place))
	if e != api.OK || !ok {
		m.trap(api.Undefined)
		return
	}
	got, ok := m.state.Module().Sig(f)
	if !ok || !types.Same(got, m.state.Module().Sigs[x.A]) {
		m.trap(api.Mismatch)
		return
	}
	m.call(f)
}
