package instr

import (
	"grommet/api"
	"grommet/conv"
	"grommet/flash"
	"grommet/leb"
	"grommet/op"
)

const (
	prefix = 252   // the first byte of ops whose code is a number behind it
	second = 64512 // the code of which that number is 0
	told   = 64    // how much more an align is, if a memory stands behind it
)

// Encode is its bytes.
func (x Instr) Encode() ([]byte, api.Errno) {
	info, ok := x.op()
	if !ok {
		return nil, api.ErrArg
	}
	b := head(x.Code)
	if info.Form == op.Const {
		return leb.PutSigned(b, signed(bits(info), x.A)), api.OK
	}
	for _, n := range x.numbers(info.Form) {
		b = leb.Put(b, n)
	}
	return b, api.OK
}

// head is a code's bytes.
func head(code int) []byte {
	if code < second {
		return []byte{byte(code)}
	}
	return leb.Put([]byte{prefix}, uint64(code-second))
}

// signed is a word as a number with a sign.
func signed(bits int, a uint64) int64 {
	if bits == narrow {
		return int64(int32(a))
	}
	return int64(a)
}

// numbers are those without a sign, in the order of their bytes; a block's type, being below 128, has the byte of such a number.
func (x Instr) numbers(form int) []uint64 {
	switch form {
	case op.None:
		return nil
	case op.Labels:
		return append(append([]uint64{uint64(len(x.L))}, x.L...), x.A)
	case op.Sig, op.Two:
		return []uint64{x.A, x.B}
	case op.Mem:
		if x.A == 0 {
			return []uint64{uint64(x.Align), x.B}
		}
		return []uint64{told + uint64(x.Align), x.A, x.B}
	}
	return []uint64{x.A}
}

// All is all instructions of bytes.
func All(b []byte) ([]Instr, int, api.Errno) {
	f, e := flash.New(b)
	if e != api.OK {
		return nil, 0, e
	}
	c, _ := f.Cursor(0, len(b))
	var l []Instr
	for c.Left() > 0 {
		x, e := Decode(c)
		if e != api.OK {
			return nil, c.At(), e
		}
		l = append(l, x)
	}
	return l, c.At(), api.OK
}

// Decode is the instruction that a cursor reads.
func Decode(c *flash.Cursor) (Instr, api.Errno) {
	from := c.At()
	r := reader{Cursor: c}
	x := r.instr()
	if r.err != api.OK {
		c.Go(from)
		return Instr{}, r.err
	}
	return x, api.OK
}

// reader reads from where its cursor stands. The first error that it meets stays; behind that it reads nothing, and all numbers are 0.
type reader struct {
	*flash.Cursor
	err api.Errno
}

// meet takes an error, or OK.
func (r *reader) meet(e api.Errno) {
	if r.err == api.OK {
		r.err = e
	}
}

// instr reads an instruction.
func (r *reader) instr() Instr {
	info := r.op()
	x := Instr{Code: info.Code}
	switch info.Form {
	case op.None:
	case op.Block:
		x.A = r.blockType()
	case op.Labels:
		x.L = r.labels()
		x.A = r.number(narrow)
	case op.Sig, op.Two:
		x.A = r.number(narrow)
		x.B = r.number(narrow)
	case op.Mem:
		x.Align, x.A, x.B = r.access()
	case op.Const:
		x.A = r.word(bits(info))
	default:
		x.A = r.number(narrow)
	}
	return x
}

// op reads a code.
func (r *reader) op() op.Info {
	code := int(next(r, r.Byte))
	if code == prefix {
		code = second + int(r.number(narrow))
	}
	if op.Foreign(code) {
		r.meet(api.ErrProfile)
	}
	info, ok := op.Find(code)
	if !ok {
		r.meet(api.ErrForm)
	}
	return info
}

// next is what is read next, if there was no error.
func next[N any](r *reader, read func() (N, api.Errno)) N {
	var none N
	if r.err != api.OK {
		return none
	}
	n, e := read()
	r.meet(e)
	return n
}

// number reads a number without a sign.
func (r *reader) number(bits int) uint64 {
	return next(r, func() (uint64, api.Errno) { return r.Unsigned(bits) })
}

// word reads a number with a sign, as a word.
func (r *reader) word(bits int) uint64 {
	n := uint64(next(r, func() (int64, api.Errno) { return r.Signed(bits) }))
	if bits == narrow {
		return conv.Wrap(n)
	}
	return n
}

// blockType reads a block's type.
func (r *reader) blockType() uint64 {
	a := uint64(next(r, r.Byte))
	if !blockType(a) {
		r.meet(api.ErrForm)
	}
	return a
}

// labels reads how many labels there are, and these.
func (r *reader) labels() []uint64 {
	n := r.number(narrow)
	if n > mostLabels {
		r.meet(api.ErrLong)
		return nil
	}
	var l []uint64
	for range n {
		l = append(l, r.number(narrow))
	}
	return l
}

// access reads an align, a memory, and an offset. The memory may be missing: it is 0 then.
func (r *reader) access() (int, uint64, uint64) {
	align := r.number(narrow)
	memory := func() uint64 { return 0 }
	if align >= told {
		align -= told
		memory = func() uint64 { return r.number(narrow) }
	}
	if align > mostAlign {
		r.meet(api.ErrForm)
	}
	return int(align), memory(), r.number(64)
}
