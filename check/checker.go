package check

import (
	"grommet/api"
)

// anything is a type that may be taken as each one.
const anything api.Type = 0

// place is that of an instruction.
type place struct {
	at int
}

// wrong is what isn't right: where, and the error.
type wrong struct {
	place
	err api.Errno
}

// checker goes through a function's body, and has the types that are on the stack where it stands.
type checker struct {
	function
	place
	stack   []api.Type
	open    []block // the function's own first
	heights []int   // ahead of the instructions that it went over
}

// block is one that has no end yet.
type block struct {
	code    int // of what it stands in: that of an if till its else
	results []api.Type
	height  int  // of the stack at its beginning
	dead    bool // whether anything may be taken from nothing
}

// begun is a checker ahead of a function's first instruction.
func begun(f function) *checker {
	c := &checker{function: f}
	c.begin(opBlock, f.sig.Results)
	return c
}

// through goes through the body, up to its end, or to what isn't right.
func (c *checker) through() (first wrong) {
	// Nothing but the end of the loop tells that all is right.
	first.err = api.ErrType
	defer func() {
		if x, ok := recover().(wrong); ok {
			first = x
		}
	}()
	for _, x := range c.Body.L {
		c.heights = append(c.heights, len(c.stack))
		c.step(x)
		c.at++
	}
	return wrong{}
}

// want takes that something must hold, and else tells that the instruction where it stands isn't right.
func (c *checker) want(holds bool, e api.Errno) {
	if !holds {
		panic(wrong{c.place, e})
	}
}

// innermost is the block that was opened last.
func (c *checker) innermost() *block {
	return &c.open[len(c.open)-1]
}

// take takes a type from the stack, and tells which: of two, one of which is anything, the other one.
func (c *checker) take(t api.Type) api.Type {
	top, b := len(c.stack)-1, c.innermost()
	if top < b.height {
		c.want(b.dead, api.ErrType)
		return t
	}
	had := c.stack[top]
	c.stack = c.stack[:top]
	if had == anything {
		return t
	}
	c.want(had == t || t == anything, api.ErrType)
	return had
}

// takes takes types from the stack, the last one first.
func (c *checker) takes(l ...api.Type) {
	for i := len(l) - 1; i >= 0; i-- {
		c.take(l[i])
	}
}

// gives lays types onto the stack.
func (c *checker) gives(l ...api.Type) {
	c.stack = append(c.stack, l...)
}

// begin opens a block.
func (c *checker) begin(code int, results []api.Type) {
	c.open = append(c.open, block{code: code, results: results, height: len(c.stack)})
}

// results takes those of the innermost block, above which nothing may be.
func (c *checker) results() {
	b := c.innermost()
	c.takes(b.results...)
	c.want(len(c.stack) == b.height, api.ErrType)
}

// part is an else.
func (c *checker) part() {
	c.results()
	b := c.innermost()
	b.code, b.dead = opElse, false
}

// end closes the innermost block.
func (c *checker) end() {
	c.results()
	b := *c.innermost()
	c.want(b.code != opIf || len(b.results) == 0, api.ErrType)
	c.open = c.open[:len(c.open)-1]
	c.gives(b.results...)
}

// leave takes that what stands behind is never reached, up to the block's end, or else.
func (c *checker) leave() {
	b := c.innermost()
	c.stack = c.stack[:b.height]
	b.dead = true
}

// label is the types that a branch to a label takes.
func (c *checker) label(n uint64) []api.Type {
	b := c.open[len(c.open)-1-int(n)]
	if b.code == opLoop {
		return nil
	}
	return b.results
}
