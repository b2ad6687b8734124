package run

import (
	"grommet/api"
	"grommet/conv"
	"grommet/instr"
	"grommet/op"
	"grommet/word"
)

// The codes of instructions that move words, or let them be of another width.
const (
	opDrop      = 26
	opSelect    = 27
	opLocalGet  = 32
	opLocalSet  = 33
	opLocalTee  = 34
	opGlobalGet = 35
	opGlobalSet = 36
	opConst32   = 65
	opConst64   = 66
	opWrap      = 167
)

// extension is an instruction that extends words.
type extension struct {
	code, from, to int
	signed         bool
}

var extensions = [...]extension{
	{172, 32, 64, true},
	{173, 32, 64, false},
	{192, 8, 32, true},
	{193, 16, 32, true},
	{194, 8, 64, true},
	{195, 16, 64, true},
	{196, 32, 64, true},
}

// variable does what moves words.
func (m *Machine) variable(x *instr.Instr) bool {
	switch x.Code {
	case opDrop:
		m.pop()
	case opSelect:
		m.choose()
	case opLocalGet:
		v, e := m.stack.Get(m.local(x))
		m.put(v, api.NoTrap, e)
	case opLocalSet:
		m.fine(api.NoTrap, m.stack.Set(m.local(x), m.pop()))
	case opLocalTee:
		v := m.pop()
		m.fine(api.NoTrap, m.stack.Set(m.local(x), v))
		m.push(v)
	case opGlobalGet:
		v, e := m.state.Global(int(x.A))
		m.put(v, api.NoTrap, e)
	case opGlobalSet:
		m.fine(api.NoTrap, m.state.Set(int(x.A), m.pop()))
	case opConst32, opConst64:
		m.push(x.A)
	default:
		return false
	}
	return true
}

// local is the cell of a local.
func (m *Machine) local(x *instr.Instr) int {
	return m.now.Base + int(x.A)
}

// choose takes one of two words.
func (m *Machine) choose() {
	which, other, first := m.pop(), m.pop(), m.pop()
	if which != 0 {
		m.push(first)
	} else {
		m.push(other)
	}
}

// numeric does what layer 5 does.
func (m *Machine) numeric(x *instr.Instr) bool {
	group, number, bits, ok := op.Numeric(x.Code)
	if !ok {
		return false
	}
	var v uint64
	var t api.Trap
	var e api.Errno
	switch last := m.pop(); group {
	case op.GroupUnary:
		v, e = word.Unary(number, bits, last)
	case op.GroupTest:
		v, e = word.Test(number, bits, m.pop(), last)
	case op.GroupBinary:
		v, t, e = word.Binary(number, bits, m.pop(), last)
	}
	m.put(v, t, e)
	return true
}

// width does what lets words be of another width.
func (m *Machine) width(x *instr.Instr) bool {
	if x.Code == opWrap {
		m.push(conv.Wrap(m.pop()))
		return true
	}
	for _, w := range extensions {
		if w.code == x.Code {
			v, e := conv.Extend(w.from, w.to, w.signed, m.pop())
			m.put(v, api.NoTrap, e)
			return true
		}
	}
	return false
}
