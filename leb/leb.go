// Package leb is layer 1: numbers as bytes.
package leb

import (
	"grommet/api"
)

const (
	share    = 7    // bits of a number in a byte
	follows  = 0x80 // the bit of a byte that tells that one more follows
	negative = 0x40 // the bit of a last byte that is the number's sign
	widest   = 64   // bits of the widest number
)

// Unsigned is the number without a sign that b begins with, and how many bytes it has.
func Unsigned(b []byte, bits int) (uint64, int, api.Errno) {
	size, e := extent(b, bits, zeroAbove)
	if e != api.OK {
		return 0, 0, e
	}
	return join(b[:size]), size, api.OK
}

// Signed is the number with a sign that b begins with, and how many bytes it has.
func Signed(b []byte, bits int) (int64, int, api.Errno) {
	size, e := extent(b, bits, signAbove)
	if e != api.OK {
		return 0, 0, e
	}
	n := join(b[:size])
	if b[size-1]&negative != 0 {
		n |= ^uint64(0) << (share * size)
	}
	return int64(n), size, api.OK
}

// extent is how many bytes the number has that b begins with. Only the last byte that may be can have bits beyond the number's own; fits looks at that one.
func extent(b []byte, bits int, fits func(last byte, own int) bool) (int, api.Errno) {
	if bits < 1 || bits > widest {
		return 0, api.ErrArg
	}
	last := (bits - 1) / share
	for i, c := range b {
		if i == last && !fits(c, bits-share*last) {
			return 0, api.ErrForm
		}
		if c&follows == 0 {
			return i + 1, api.OK
		}
	}
	return 0, api.ErrShort
}

// zeroAbove tells whether all bits above a byte's own lowest ones are 0, the highest among them.
func zeroAbove(last byte, own int) bool {
	return last>>own == 0
}

// signAbove tells whether the highest bit is 0, and those below it, down to the highest of the byte's own, are all the same.
func signAbove(last byte, own int) bool {
	above := int8(last<<1) >> own
	return last&follows == 0 && (above == 0 || above == -1)
}

// join puts the bytes' shares together, the lowest one first.
func join(b []byte) uint64 {
	var n uint64
	for i, c := range b {
		n |= uint64(c&^follows) << (share * i)
	}
	return n
}

// Put is b, and the fewest bytes of a number without a sign behind it.
func Put(b []byte, n uint64) []byte {
	return put(b, n, Size(n))
}

// PutSigned is b, and the fewest bytes of a number with a sign behind it.
func PutSigned(b []byte, n int64) []byte {
	return put(b, n, SizeSigned(n))
}

// put copies b, whose spare room is its owner's, and puts a number of so many bytes behind it.
func put[N uint64 | int64](b []byte, n N, size int) []byte {
	out := make([]byte, len(b), len(b)+size)
	copy(out, b)
	for range size - 1 {
		out = append(out, byte(n)|follows)
		n >>= share
	}
	return append(out, byte(n)&^follows)
}

// Size is how many bytes Put puts.
func Size(n uint64) int {
	size := 1
	for n >= follows {
		n >>= share
		size++
	}
	return size
}

// SizeSigned is how many bytes PutSigned puts.
func SizeSigned(n int64) int {
	size := 1
	for n < -negative || n >= negative {
		n >>= share
		size++
	}
	return size
}
