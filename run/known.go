package run

import (
	"sync"

	"grommet/check"
	"grommet/instr"
	"grommet/side"
	"grommet/state"
	"grommet/types"
	"grommet/valid"
)

// known is what is known of an own function.
type known struct {
	once   sync.Once
	sig    types.Sig
	body   []instr.Instr
	side   *side.Side
	locals int // how many, parameters among them
	cells  int // how many a call needs
}

// learn makes what is known of the f-th own function of a state's module.
func (k *known) learn(s *state.State, f int) {
	m := s.Module()
	k.sig, _ = m.Sig(len(m.Imports) + f)
	k.body = m.Funcs[f].Body.L
	k.side, _ = side.New(m, f)
	k.locals = check.Locals(m, f)
	k.cells = valid.Need(m, f)
}

// find is what is known of an own function, by its number among all; nil of another one.
func (m *Machine) find(f int) *known {
	f -= m.imports
	if f < 0 || f >= len(m.own) {
		return nil
	}
	k := &m.own[f]
	k.once.Do(func() { k.learn(m.state, f) })
	return k
}
