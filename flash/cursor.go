package flash

import (
	"grommet/api"
	"grommet/leb"
)

// Cursor stands at a place of a flash, within a part.
type Cursor struct {
	*flash
	from, to, at int
}

// Cursor is one at the beginning of the part from a place up to another one.
func (f *Flash) Cursor(from, to int) (*Cursor, api.Errno) {
	if f == nil {
		return nil, api.ErrState
	}
	if from < 0 || from > to || to > len(f.bytes) {
		return nil, api.ErrRange
	}
	return &Cursor{&f.flash, from, to, from}, api.OK
}

// At is where it stands, as a place of the flash.
func (c *Cursor) At() int {
	if c == nil {
		return 0
	}
	return c.at
}

// Left is how many bytes of its part are left.
func (c *Cursor) Left() int {
	if c == nil {
		return 0
	}
	return c.to - c.at
}

// Byte reads a byte, and stands behind it.
func (c *Cursor) Byte() (byte, api.Errno) {
	b, e := c.Take(1)
	if e != api.OK {
		return 0, e
	}
	return b[0], api.OK
}

// Take reads n bytes, and stands behind them.
func (c *Cursor) Take(n int) ([]byte, api.Errno) {
	if e := c.has(n); e != api.OK {
		return nil, e
	}
	b, e := c.read(c.at, n)
	if e == api.OK {
		c.at += n
	}
	return b, e
}

// Part is a cursor of the next n bytes; this one stands behind them.
func (c *Cursor) Part(n int) (*Cursor, api.Errno) {
	if e := c.has(n); e != api.OK {
		return nil, e
	}
	from := c.at
	c.at += n
	return &Cursor{c.flash, from, c.at, from}, api.OK
}

// has is OK, if n bytes are left.
func (c *Cursor) has(n int) api.Errno {
	switch {
	case c == nil:
		return api.ErrState
	case n < 0:
		return api.ErrArg
	case n > c.Left():
		return api.ErrShort
	}
	return api.OK
}

// Unsigned reads a number without a sign, of so many bits, and stands behind it.
func (c *Cursor) Unsigned(bits int) (uint64, api.Errno) {
	return number(c, bits, leb.Unsigned)
}

// Signed reads a number with a sign, of so many bits, and stands behind it.
func (c *Cursor) Signed(bits int) (int64, api.Errno) {
	return number(c, bits, leb.Signed)
}

// number reads byte by byte till parse tells more than that they end too early: it knows how many bytes there may be.
func number[N uint64 | int64](c *Cursor, bits int, parse func([]byte, int) (N, int, api.Errno)) (N, api.Errno) {
	if c == nil {
		return 0, api.ErrState
	}
	ahead := *c
	var read []byte
	n, _, e := parse(read, bits)
	for e == api.ErrShort {
		b, missing := ahead.Byte()
		if missing != api.OK {
			return 0, missing
		}
		read = append(read, b)
		n, _, e = parse(read, bits)
	}
	if e == api.OK {
		c.at = ahead.at
	}
	return n, e
}

// Go lets it stand at a place of its part, or at the part's end.
func (c *Cursor) Go(at int) api.Errno {
	if c == nil {
		return api.ErrState
	}
	if at < c.from || at > c.to {
		return api.ErrRange
	}
	c.at = at
	return api.OK
}
