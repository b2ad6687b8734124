package text

import (
	"math"
	"slices"
	"strings"

	"grommet/api"
	"grommet/conv"
	"grommet/types"
)

// words are those of a line that weren't read yet, and whether one that was isn't as it must be.
type words struct {
	left  []string
	wrong bool
}

// split is a line's words, one blank between.
func split(line string) words {
	return words{left: strings.Split(line, " ")}
}

// done tells whether all words were read, and were as they must be.
func (w *words) done() bool {
	return !w.wrong && len(w.left) == 0
}

// want takes that something must hold.
func (w *words) want(holds bool) {
	w.wrong = w.wrong || !holds
}

// next reads a word.
func (w *words) next() string {
	w.want(len(w.left) > 0)
	if w.wrong {
		return ""
	}
	s := w.left[0]
	w.left = w.left[1:]
	return s
}

// rest reads all words, with the blanks between them.
func (w *words) rest() string {
	s := strings.Join(w.left, " ")
	w.left = nil
	return s
}

// oneOf reads one of these words, and answers which.
func (w *words) oneOf(l ...string) int {
	i := slices.Index(l, w.next())
	w.want(i >= 0)
	return max(i, 0)
}

// name reads a word that is kept.
func (w *words) name() string {
	// A piece of the line would keep all of it.
	return strings.Clone(w.next())
}

// address reads a number without a sign.
func (w *words) address() uint64 {
	s := w.next()
	n, _ := conv.Parse(64, s)
	w.want(tens(n) == s)
	return n
}

// number reads the number of a thing, or how many there are.
func (w *words) number() int {
	n := w.address()
	w.want(n <= math.MaxInt)
	return int(n)
}

// oneType reads a type's name.
func (w *words) oneType() api.Type {
	all := [...]api.Type{api.I32, api.I64}
	return all[w.oneOf(types.Name(api.I32), types.Name(api.I64))]
}

// word reads a word of so many bits, with its sign.
func (w *words) word(bits int) uint64 {
	s := w.next()
	n, _ := conv.Parse(bits, s)
	w.want(conv.Print(bits, n) == s)
	return n
}

// hex reads bytes, behind the letter that tells of them.
func (w *words) hex() []byte {
	s, found := strings.CutPrefix(w.next(), bytesAre)
	w.want(found && len(s)%2 == 0)
	var b []byte
	for i := 0; i+1 < len(s); i += 2 {
		b = append(b, w.digit(s[i])<<4|w.digit(s[i+1]))
	}
	return b
}

// digit is a hex digit's number.
func (w *words) digit(c byte) byte {
	i := strings.IndexByte(digits, c)
	w.want(i >= 0)
	return byte(i)
}
