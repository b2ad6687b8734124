package code

import (
	"slices"

	"grommet/api"
	"grommet/flash"
	"grommet/instr"
	"grommet/types"
)

// reader reads a body from where its cursor stands. When something can't be read, it stands at the place that is told of that.
type reader struct {
	*flash.Cursor
	blocks nest
	body   Body
}

// Read is the body of bytes.
func Read(b []byte) (Body, int, api.Errno) {
	if len(b) > api.MaxCode {
		return Body{}, 0, api.ErrLong
	}
	f, _ := flash.New(b)
	c, _ := f.Cursor(0, len(b))
	r := reader{Cursor: c}
	e := r.locals()
	if e == api.OK {
		e = r.instrs()
	}
	if e != api.OK {
		return Body{}, r.At(), e
	}
	return r.body, 0, api.OK
}

// locals reads how many runs there are, and these.
func (r *reader) locals() api.Errno {
	runs, e := r.Unsigned(32)
	for ; runs > 0 && e == api.OK; runs-- {
		e = r.run()
	}
	return e
}

// run reads how many locals there are, and their type.
func (r *reader) run() api.Errno {
	from := r.At()
	n, e := r.Unsigned(32)
	if e != api.OK {
		return e
	}
	t, e := r.local()
	if e != api.OK {
		return e
	}
	if n > uint64(api.MaxLocals-len(r.body.Locals)) {
		return r.back(from, api.ErrLong)
	}
	r.body.Locals = append(r.body.Locals, slices.Repeat([]api.Type{t}, int(n))...)
	return api.OK
}

// local reads a type.
func (r *reader) local() (api.Type, api.Errno) {
	from := r.At()
	b, e := r.Byte()
	t := api.Type(b)
	if e == api.OK && types.Bits(t) == 0 {
		e = r.back(from, api.ErrForm)
	}
	return t, e
}

// instrs reads all that is left.
func (r *reader) instrs() api.Errno {
	for r.Left() > 0 {
		if e := r.instr(); e != api.OK {
			return e
		}
	}
	if !r.blocks.closed {
		return api.ErrForm
	}
	return api.OK
}

// instr reads an instruction that may stand here.
func (r *reader) instr() api.Errno {
	// Behind the last end nothing may stand, whether it can be read or not.
	if r.blocks.closed {
		return api.ErrForm
	}
	from := r.At()
	x, e := instr.Decode(r.Cursor)
	if e != api.OK {
		return e
	}
	if e := r.blocks.step(x.Code); e != api.OK {
		return r.back(from, e)
	}
	r.body.L = append(r.body.L, x)
	return api.OK
}

// back goes back to a place, of which an error is told.
func (r *reader) back(to int, e api.Errno) api.Errno {
	r.Go(to)
	return e
}
