package check

import (
	"slices"

	"grommet/api"
	"grommet/instr"
	"grommet/op"
	"grommet/types"
)

// The codes of instructions that take and give something else than their op tells.
const (
	opUnreachable = 0
	opBlock       = 2
	opLoop        = 3
	opIf          = 4
	opElse        = 5
	opEnd         = 11
	opBrIf        = 13
	opReturn      = 15
	opDrop        = 26
	opSelect      = 27
	opLocalGet    = 32
	opLocalSet    = 33
	opLocalTee    = 34
	opGlobalGet   = 35
	opGlobalSet   = 36
	opMemorySize  = 63
	opMemoryGrow  = 64
	opMemoryFill  = 64523
)

// narrow is how many addresses of 32 bits there are.
const narrow = 1 << 32

// step goes over an instruction that is right, and does to the stack and the blocks what it does.
func (c *checker) step(x instr.Instr) {
	info, _ := op.Find(x.Code)
	c.want(c.there(x, info.Form), api.ErrRange)
	switch info.Form {
	case op.None:
		c.plain(info)
	case op.Block:
		c.block(x)
	case op.Label:
		c.branch(x)
	case op.Labels:
		c.table(x)
	case op.Func:
		s, _ := c.m.Sig(int(x.A))
		c.takes(s.Params...)
		c.gives(s.Results...)
	case op.Sig:
		c.take(api.I32)
		c.takes(c.m.Sigs[x.A].Params...)
		c.gives(c.m.Sigs[x.A].Results...)
	case op.Local:
		c.variable(x.Code, c.local(int(x.A)))
	case op.Global:
		g := c.m.Globals[x.A]
		c.want(x.Code == opGlobalGet || g.Mutable, api.ErrType)
		c.variable(x.Code, g.Type)
	case op.Mem:
		c.access(x, info)
	case op.One:
		c.memory(x.Code, c.address(x.A))
	case op.Two:
		c.copy(c.address(x.A), c.address(x.B))
	case op.Const:
		c.gives(info.Gives...)
	}
}

// there tells whether there is what an instruction's numbers tell of.
func (c *checker) there(x instr.Instr, form int) bool {
	switch form {
	case op.Label:
		return within(x.A, len(c.open))
	case op.Labels:
		missing := func(n uint64) bool { return !within(n, len(c.open)) }
		return !missing(x.A) && !slices.ContainsFunc(x.L, missing)
	case op.Func:
		return within(x.A, c.m.Count())
	case op.Sig:
		return within(x.A, len(c.m.Sigs)) && x.B == 0 && c.m.Table >= 0
	case op.Local:
		return within(x.A, c.locals())
	case op.Global:
		return within(x.A, len(c.m.Globals))
	case op.Mem:
		return within(x.A, len(c.m.Mems)) && (c.m.Mems[x.A].Wide || x.B < narrow)
	case op.One:
		return within(x.A, len(c.m.Mems))
	case op.Two:
		return within(x.A, len(c.m.Mems)) && within(x.B, len(c.m.Mems))
	}
	return true
}

// within tells whether there is a thing of this number, of n.
func within(number uint64, n int) bool {
	return number < uint64(n)
}

// plain goes over an instruction without numbers.
func (c *checker) plain(info op.Info) {
	switch info.Code {
	case opUnreachable:
		c.leave()
	case opElse:
		c.part()
	case opEnd:
		c.end()
	case opReturn:
		c.takes(c.sig.Results...)
		c.leave()
	case opDrop:
		c.take(anything)
	case opSelect:
		c.take(api.I32)
		c.gives(c.take(c.take(anything)))
	default:
		c.takes(info.Takes...)
		c.gives(info.Gives...)
	}
}

// block goes over a block, loop or if.
func (c *checker) block(x instr.Instr) {
	if x.Code == opIf {
		c.take(api.I32)
	}
	var results []api.Type
	if t := api.Type(x.A); types.Bits(t) > 0 {
		results = append(results, t)
	}
	c.begin(x.Code, results)
}

// branch goes over a br or br_if.
func (c *checker) branch(x instr.Instr) {
	if x.Code == opBrIf {
		c.take(api.I32)
		c.takes(c.label(x.A)...)
		c.gives(c.label(x.A)...)
		return
	}
	c.takes(c.label(x.A)...)
	c.leave()
}

// table goes over a br_table.
func (c *checker) table(x instr.Instr) {
	c.take(api.I32)
	l := c.label(x.A)
	for _, n := range x.L {
		c.want(slices.Equal(c.label(n), l), api.ErrType)
	}
	c.takes(l...)
	c.leave()
}

// variable goes over an instruction of a local or a global of this type.
func (c *checker) variable(code int, t api.Type) {
	switch code {
	case opLocalGet, opGlobalGet:
		c.gives(t)
	case opLocalSet, opGlobalSet:
		c.take(t)
	case opLocalTee:
		c.take(t)
		c.gives(t)
	}
}

// address is the type of a memory's addresses.
func (c *checker) address(mem uint64) api.Type {
	if c.m.Mems[mem].Wide {
		return api.I64
	}
	return api.I32
}

// access goes over a load or a store, which take an address first.
func (c *checker) access(x instr.Instr, info op.Info) {
	width, _ := op.Width(x.Code)
	c.want(uint64(1)<<x.Align <= uint64(width), api.ErrType)
	c.takes(info.Takes[1:]...)
	c.take(c.address(x.A))
	c.gives(info.Gives...)
}

// memory goes over an instruction of one memory, of these addresses.
func (c *checker) memory(code int, address api.Type) {
	switch code {
	case opMemorySize:
		c.gives(address)
	case opMemoryGrow:
		c.take(address)
		c.gives(address)
	case opMemoryFill:
		c.takes(address, api.I32, address)
	}
}

// copy goes over a memory.copy, to a memory of addresses of one type, from one of another.
func (c *checker) copy(to, from api.Type) {
	size := to
	if to != from {
		size = api.I32
	}
	c.takes(to, from, size)
}
