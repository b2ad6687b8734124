package run

import (
	"math"

	"grommet/api"
	"grommet/conv"
	"grommet/instr"
	"grommet/op"
	"grommet/space"
)

// The codes of instructions that ask memories.
const (
	opFirstLoad  = 40
	opLastLoad   = 53
	opMemorySize = 63
	opMemoryGrow = 64
	opMemoryCopy = 64522
	opMemoryFill = 64523
)

// load is what becomes of the bytes of a load.
type load struct {
	bits   int
	signed bool
}

// loads are of the codes from opFirstLoad on; nothing of those that are no op's.
var loads = [...]load{
	{32, false}, {64, false}, {}, {},
	{32, true}, {32, false}, {32, true}, {32, false},
	{64, true}, {64, false}, {64, true}, {64, false}, {64, true}, {64, false},
}

// access does what asks memories.
func (m *Machine) access(x *instr.Instr) bool {
	switch x.Code {
	case opMemorySize:
		m.push(uint64(m.memory(x.A).Pages()))
	case opMemoryGrow:
		m.grow(m.memory(x.A))
	case opMemoryCopy:
		m.copy(m.memory(x.A), m.memory(x.B))
	case opMemoryFill:
		n, v, at := m.pop(), m.pop(), m.pop()
		m.fine(m.memory(x.A).Fill(at, byte(v), n))
	default:
		return m.move(x)
	}
	return true
}

// memory is a memory.
func (m *Machine) memory(i uint64) *space.Memory {
	mem, _ := m.state.Memory(int(i))
	return mem
}

// grow lets a memory have more pages.
func (m *Machine) grow(mem *space.Memory) {
	had, ok := mem.Grow(m.pop())
	switch {
	case ok:
		m.push(uint64(had))
	case mem.Wide():
		m.push(math.MaxUint64)
	default:
		m.push(math.MaxUint32)
	}
}

// copy copies bytes from a memory to one.
func (m *Machine) copy(to, from *space.Memory) {
	n, at, place := m.pop(), m.pop(), m.pop()
	m.fine(to.Copy(from, place, at, n))
}

// move does loads and stores.
func (m *Machine) move(x *instr.Instr) bool {
	n, ok := op.Width(x.Code)
	if !ok {
		return false
	}
	if x.Code <= opLastLoad {
		m.load(x, n)
	} else {
		m.store(x, n)
	}
	return true
}

// load loads n bytes.
func (m *Machine) load(x *instr.Instr, n int) {
	b, t, e := m.memory(x.A).Load(m.pop(), x.B, n)
	if !m.fine(t, e) {
		return
	}
	how := loads[x.Code-opFirstLoad]
	v, e := conv.Load(b, how.bits, how.signed)
	m.put(v, api.NoTrap, e)
}

// store stores n bytes.
func (m *Machine) store(x *instr.Instr, n int) {
	b, _ := conv.Bytes(m.pop(), n)
	m.fine(m.memory(x.A).Store(m.pop(), x.B, b))
}
