package run

import (
	"grommet/api"
	"grommet/frame"
)

// bytesByFuel is how many bytes are moved for one more of fuel.
const bytesByFuel = 64

// stop lets the call come to an outcome; the first one counts.
func (m *Machine) stop(o Outcome) {
	if m.end == nil {
		m.end = &o
	}
}

// fail lets the call fail.
func (m *Machine) fail(e api.Errno) {
	m.stop(Outcome{Kind: Failed, Err: e})
}

// trap lets the call trap.
func (m *Machine) trap(t api.Trap) {
	m.stop(Outcome{Kind: Trapped, Trap: t})
}

// fine tells whether a layer below did what it was asked; if not, the call comes to what that one answered.
func (m *Machine) fine(t api.Trap, e api.Errno) bool {
	if e != api.OK {
		m.fail(e)
	} else if t != api.NoTrap {
		m.trap(t)
	}
	return e == api.OK && t == api.NoTrap
}

// push pushes words, and tells whether they are there.
func (m *Machine) push(l ...uint64) bool {
	return m.fine(api.NoTrap, m.stack.Push(l...))
}

// put pushes a word that a layer below answered.
func (m *Machine) put(v uint64, t api.Trap, e api.Errno) {
	if m.fine(t, e) {
		m.push(v)
	}
}

// pop is the topmost word, which is gone.
func (m *Machine) pop() uint64 {
	v, e := m.stack.Pop()
	m.fine(api.NoTrap, e)
	return v
}

// run runs till there is an outcome.
func (m *Machine) run() Outcome {
	for m.end == nil {
		m.step()
	}
	o := *m.end
	m.end = nil
	switch o.Kind {
	case Host:
		m.waits = true
	case Failed:
		m.fault = o.Err
	default:
		m.stack.Unwind(0, 0)
		m.frames.Clear()
	}
	return o
}

// step runs an instruction, or ends the call of a function behind its last one.
func (m *Machine) step() {
	if m.now.Place >= len(m.in.body) {
		m.back(len(m.in.sig.Results))
		return
	}
	x := &m.in.body[m.now.Place]
	if !m.pay(m.cost(x.Code)) {
		m.fail(api.ErrFuel)
		return
	}
	m.now.Place++
	// What none of these does, block, loop, nop and end, does nothing.
	for _, does := range m.groups {
		if does(x) {
			return
		}
	}
}

// cost is how much fuel an instruction takes.
func (m *Machine) cost(code int) uint64 {
	if code != opMemoryCopy && code != opMemoryFill {
		return 1
	}
	bytes, e := m.stack.Get(m.stack.Height() - 1)
	m.fine(api.NoTrap, e)
	return 1 + bytes/bytesByFuel
}

// pay takes fuel, if there is as much.
func (m *Machine) pay(cost uint64) bool {
	if cost > uint64(m.left) {
		return false
	}
	m.left -= int(cost)
	m.spent.Add(int64(cost))
	return true
}

// call calls a function, whose arguments are topmost.
func (m *Machine) call(f int) {
	if k := m.find(f); k != nil {
		m.begin(f, k)
	} else {
		m.ask(f)
	}
}

// ask lets the machine wait for an import's results.
func (m *Machine) ask(f int) {
	m.asked, _ = m.state.Module().Sig(f)
	given, e := m.stack.Take(len(m.asked.Params))
	if m.fine(api.NoTrap, e) {
		m.stop(Outcome{Kind: Host, Import: f, Results: given})
	}
}

// begin begins a call of an own function.
func (m *Machine) begin(f int, k *known) {
	params := len(k.sig.Params)
	base := m.stack.Height() - params
	if base+k.cells > m.config.Cells {
		m.fail(api.ErrDepth)
		return
	}
	// Of the call that goes on behind this one, if there is such a one.
	m.frames.Go(m.now.Place)
	m.now, m.in = frame.Frame{Func: f, Base: base}, k
	if !m.fine(api.NoTrap, m.frames.Push(m.now)) {
		return
	}
	m.push(make([]uint64, k.locals-params)...)
	m.peakCells = max(m.peakCells, base+k.cells)
	m.peakFrames = max(m.peakFrames, m.frames.Depth())
}

// back ends the call of a function, which gives so many results.
func (m *Machine) back(results int) {
	if !m.fine(api.NoTrap, m.stack.Unwind(results, m.now.Base)) {
		return
	}
	m.frames.Pop()
	if m.frames.Depth() == 0 {
		l, _ := m.stack.Take(results)
		m.stop(Outcome{Kind: Done, Results: l})
		return
	}
	m.now, _ = m.frames.Top()
	if m.in = m.find(m.now.Func); m.in == nil {
		// Only who puts other bytes into its rooms lets it come here.
		m.fail(api.ErrState)
	}
}
