// Package numeric tells what instructions give that are numeric, or let a word be of another width: for who runs them, and for who makes them plainer.
package numeric

import (
	"grommet/api"
	"grommet/conv"
	"grommet/op"
	"grommet/word"
)

// opWrap is the code of the instruction that cuts words.
const opWrap = 167

// extension is an instruction that extends words.
type extension struct {
	code, from, to int
	signed         bool
}

var extensions = [...]extension{
	{172, 32, 64, true},
	{173, 32, 64, false},
	{192, 8, 32, true},
	{193, 16, 32, true},
	{194, 8, 64, true},
	{195, 16, 64, true},
	{196, 32, 64, true},
}

// extends is the extension of a code.
func extends(code int) (extension, bool) {
	for _, x := range extensions {
		if x.code == code {
			return x, true
		}
	}
	return extension{}, false
}

// Takes is how many words an instruction takes: 0 of one that is neither numeric, nor lets a word be of another width.
func Takes(code int) int {
	group, _, _, ok := op.Numeric(code)
	if ok && group != op.GroupUnary {
		return 2
	}
	if _, wider := extends(code); ok || wider || code == opWrap {
		return 1
	}
	return 0
}

// One is what an instruction gives of the word that it takes.
func One(code int, a uint64) (uint64, api.Errno) {
	if code == opWrap {
		return conv.Wrap(a), api.OK
	}
	if x, ok := extends(code); ok {
		return conv.Extend(x.from, x.to, x.signed, a)
	}
	group, number, bits, ok := op.Numeric(code)
	if !ok || group != op.GroupUnary {
		return 0, api.ErrArg
	}
	return word.Unary(number, bits, a)
}

// Two is what an instruction gives of the two words that it takes, or by what it traps.
func Two(code int, a, b uint64) (uint64, api.Trap, api.Errno) {
	group, number, bits, ok := op.Numeric(code)
	switch {
	case ok && group == op.GroupBinary:
		return word.Binary(number, bits, a, b)
	case ok && group == op.GroupTest:
		v, e := word.Test(number, bits, a, b)
		return v, api.NoTrap, e
	}
	return 0, api.NoTrap, api.ErrArg
}
