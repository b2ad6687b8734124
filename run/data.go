package run

import (
	"grommet/api"
	"grommet/instr"
	"grommet/numeric"
)

// The codes of instructions that move words.
const (
	opDrop      = 26
	opSelect    = 27
	opLocalGet  = 32
	opLocalSet  = 33
	opLocalTee  = 34
	opGlobalGet = 35
	opGlobalSet = 36
	opConst32   = 65
	opConst64   = 66
)

// variable does what moves words.
func (m *Machine) variable(x *instr.Instr) bool {
	switch x.Code {
	case opDrop:
		m.pop()
	case opSelect:
		m.choose()
	case opLocalGet:
		v, e := m.stack.Get(m.local(x))
		m.put(v, api.NoTrap, e)
	case opLocalSet:
		m.fine(api.NoTrap, m.stack.Set(m.local(x), m.pop()))
	case opLocalTee:
		v := m.pop()
		m.fine(api.NoTrap, m.stack.Set(m.local(x), v))
		m.push(v)
	case opGlobalGet:
		v, e := m.state.Global(int(x.A))
		m.put(v, api.NoTrap, e)
	case opGlobalSet:
		m.fine(api.NoTrap, m.state.Set(int(x.A), m.pop()))
	case opConst32, opConst64:
		m.push(x.A)
	default:
		return false
	}
	return true
}

// local is the cell of a local.
func (m *Machine) local(x *instr.Instr) int {
	return m.now.Base + int(x.A)
}

// choose takes one of two words.
func (m *Machine) choose() {
	which, other, first := m.pop(), m.pop(), m.pop()
	if which != 0 {
		m.push(first)
	} else {
		m.push(other)
	}
}

// numeric does what takes words alone, and gives one.
func (m *Machine) numeric(x *instr.Instr) bool {
	switch numeric.Takes(x.Code) {
	case 1:
		v, e := numeric.One(x.Code, m.pop())
		m.put(v, api.NoTrap, e)
	case 2:
		last := m.pop()
		m.put(numeric.Two(x.Code, m.pop(), last))
	default:
		return false
	}
	return true
}
