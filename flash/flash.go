// Package flash is layer 2: bytes that can be read alone.
package flash

import (
	"sync/atomic"

	"grommet/api"
)

// never is where reads begin to fail of a flash of which none fails.
const never = -1

// flash is the bytes, and the count of their reads. A Cursor embeds this instead of Flash, whose exported calls it would hand on: they read beyond the cursor's part.
type flash struct {
	bytes []byte
	reads atomic.Int64
	fails int
}

// Flash is bytes that can be read alone.
type Flash struct {
	flash
}

// New is a flash of b's bytes.
func New(b []byte) (*Flash, api.Errno) {
	if len(b) > api.MaxModule {
		return nil, api.ErrLong
	}
	f := &Flash{}
	f.bytes = make([]byte, len(b))
	copy(f.bytes, b)
	f.fails = never
	return f, api.OK
}

// FailAt lets reads fail from the n-th on; below 0, none does.
func (f *Flash) FailAt(n int) {
	if f != nil {
		f.fails = n
	}
}

// Len is how many bytes there are.
func (f *Flash) Len() int {
	if f == nil {
		return 0
	}
	return len(f.bytes)
}

// Reads is how many reads there were, those that failed among them.
func (f *Flash) Reads() int {
	if f == nil {
		return 0
	}
	return int(f.reads.Load())
}

// Byte reads the byte at a place.
func (f *Flash) Byte(at int) (byte, api.Errno) {
	b, e := f.Bytes(at, 1)
	if e != api.OK {
		return 0, e
	}
	return b[0], api.OK
}

// Bytes reads n bytes from a place on.
func (f *Flash) Bytes(at, n int) ([]byte, api.Errno) {
	if f == nil {
		return nil, api.ErrState
	}
	// Held against what is left, since at+n may be beyond all numbers.
	if at < 0 || n < 0 || n > len(f.bytes)-at {
		return nil, api.ErrRange
	}
	return f.read(at, n)
}

// read reads n bytes that are there.
func (f *flash) read(at, n int) ([]byte, api.Errno) {
	number := int(f.reads.Add(1) - 1)
	if f.fails >= 0 && number >= f.fails {
		return nil, api.ErrFault
	}
	out := make([]byte, n)
	copy(out, f.bytes[at:])
	return out, api.OK
}
