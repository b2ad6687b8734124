package decode

import (
	"grommet/api"
	"grommet/code"
	"grommet/flash"
	"grommet/module"
)

// failure is the first error that was met.
type failure struct {
	err api.Errno
}

// meet takes an error, or OK.
func (f *failure) meet(e api.Errno) {
	// What the lower layers tell of bytes that are none of theirs makes no difference to a module.
	if e != api.OK && e != api.ErrFault {
		e = api.ErrForm
	}
	f.first(e)
}

// meetBody takes an error of a body, or OK.
func (f *failure) meetBody(e api.Errno) {
	if e == api.ErrProfile || e == api.ErrLong {
		f.first(e)
	}
	f.meet(e)
}

// first takes an error as it is, if there was none.
func (f *failure) first(e api.Errno) {
	if f.err == api.OK {
		f.err = e
	}
}

// want takes that something must hold.
func (f *failure) want(holds bool) {
	if !holds {
		f.meet(api.ErrForm)
	}
}

// reader reads from where its cursor stands. The first error that it meets stays; behind that it reads nothing, and all numbers are 0.
type reader struct {
	failure
	*flash.Cursor
	m      *module.Module
	bodies []code.Body
	last   int // the number of the latest section that counts
}

// module reads all, and answers of which place an error is told.
func (r *reader) module() int {
	at := 0
	r.marks(head)
	for r.err == api.OK && r.Left() > 0 {
		at = r.At()
		r.section()
	}
	if r.err == api.OK {
		at = r.At()
		r.join()
	}
	return at
}

// section reads a section.
func (r *reader) section() {
	number := int(r.byte())
	r.want(number == otherSection || r.last < number && number < sections)
	part := counted(r, r.Part)
	if r.err != api.OK || number == otherSection {
		return
	}
	r.last = number
	rest := r.Cursor
	r.Cursor = part
	r.things(number)
	r.want(r.Left() == 0)
	r.Cursor = rest
}

// things reads how many things a section has, and these.
func (r *reader) things(number int) {
	n := uint64(1)
	// A start stands alone, and isn't counted.
	if number != startSection {
		n = r.number(narrow)
	}
	read := readers()[number]
	for ; n > 0 && r.err == api.OK; n-- {
		read(r)
	}
}

// join gives the functions their bodies.
func (r *reader) join() {
	if len(r.bodies) != len(r.m.Funcs) {
		r.want(false)
		return
	}
	for i, b := range r.bodies {
		r.m.Funcs[i].Body = b
	}
}

// next is what is read next, if there was no error.
func next[N any](r *reader, read func() (N, api.Errno)) N {
	var none N
	if r.err != api.OK {
		return none
	}
	n, e := read()
	r.meet(e)
	return n
}

// counted reads how many bytes there are, and takes these.
func counted[N any](r *reader, take func(int) (N, api.Errno)) N {
	n := r.number(narrow)
	return next(r, func() (N, api.Errno) { return take(int(n)) })
}

// byte reads a byte.
func (r *reader) byte() byte {
	return next(r, r.Byte)
}

// number reads a number without a sign.
func (r *reader) number(bits int) uint64 {
	return next(r, func() (uint64, api.Errno) { return r.Unsigned(bits) })
}

// index reads the number of a thing.
func (r *reader) index() int {
	return int(r.number(narrow))
}

// marks reads bytes that must be these.
func (r *reader) marks(s string) {
	b := next(r, func() ([]byte, api.Errno) { return r.Take(len(s)) })
	r.want(string(b) == s)
}

// oneOf reads a byte that must be one of these.
func (r *reader) oneOf(l ...byte) byte {
	b := r.byte()
	for _, c := range l {
		if b == c {
			return b
		}
	}
	r.want(false)
	return 0
}
