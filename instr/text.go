package instr

import (
	"strconv"
	"strings"

	"grommet/api"
	"grommet/conv"
	"grommet/op"
	"grommet/types"
)

// longest is how many bytes the longest text has: that of all labels there may be, each of them as great as may be.
const longest = len("br_table") + (mostLabels+1)*len(" 4294967295")

// Print is its text.
func (x Instr) Print() string {
	info, ok := x.op()
	if !ok {
		return ""
	}
	words := append([]string{info.Name}, x.words(info)...)
	return strings.Join(words, " ")
}

// words are those behind the name.
func (x Instr) words(info op.Info) []string {
	switch info.Form {
	case op.None:
		return nil
	case op.Block:
		return typeName(x.A)
	case op.Labels:
		return append(tens(x.L...), tens(x.A)...)
	case op.Sig, op.Two:
		return tens(x.A, x.B)
	case op.Mem:
		return tens(x.A, x.B, uint64(x.Align))
	case op.Const:
		return []string{conv.Print(bits(info), x.A)}
	}
	return tens(x.A)
}

// tens are numbers' texts.
func tens(l ...uint64) []string {
	var words []string
	for _, n := range l {
		words = append(words, strconv.FormatUint(n, 10))
	}
	return words
}

// typeName is the name of a block's type, if it has one.
func typeName(a uint64) []string {
	if a == noType {
		return nil
	}
	return []string{types.Name(api.Type(a))}
}

// Parse is the instruction of a text.
func Parse(s string) (Instr, api.Errno) {
	if len(s) > longest {
		return Instr{}, api.ErrForm
	}
	words := strings.Split(s, " ")
	info, ok := op.Named(words[0])
	if !ok {
		return Instr{}, api.ErrForm
	}
	x := guess(info, words[1:])
	// Needless digits, words that are none, and words too many or too few are all told by this.
	if x.Print() != s {
		return Instr{}, api.ErrForm
	}
	return x, api.OK
}

// guess is an op's instruction of these words, if there is one.
func guess(info op.Info, words []string) Instr {
	number := func(bits int) uint64 {
		if len(words) == 0 {
			return 0
		}
		n, _ := conv.Parse(bits, words[0])
		words = words[1:]
		return n
	}
	x := Instr{Code: info.Code}
	switch info.Form {
	case op.None:
	case op.Block:
		x.A = named(words)
	case op.Labels:
		for len(words) > 1 {
			x.L = append(x.L, number(64))
		}
		x.A = number(64)
	case op.Sig, op.Two:
		x.A, x.B = number(64), number(64)
	case op.Mem:
		x.A, x.B, x.Align = number(64), number(64), int(number(64))
	case op.Const:
		x.A = number(bits(info))
	default:
		x.A = number(64)
	}
	return x
}

// named is the type of a block that these words name.
func named(words []string) uint64 {
	if len(words) == 0 {
		return noType
	}
	if words[0] == types.Name(api.I64) {
		return uint64(api.I64)
	}
	return uint64(api.I32)
}
