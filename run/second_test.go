package run_test

import (
	"math"
	"slices"

	"grommet/api"
	"grommet/conv"
	"grommet/instr"
	"grommet/module"
	"grommet/op"
	"grommet/run"
	"grommet/types"
	"grommet/valid"
	"grommet/word"
)

// second is what the chapter tells of a machine and its state, in plain lists; bodies are gone through block by block, without a side table.
type second struct {
	m       *module.Module
	c       run.Config
	globals []uint64
	table   []int // -1 of nothing
	mems    [][]byte

	fuel, spent   int
	cells, frames int
	broken        bool
	asked         int           // how often a host was asked
	trail         []run.Outcome // what a call came to, hosts ahead of it
}

// begins is one of a module whose elements and data fit.
func begins(m *module.Module, c run.Config) *second {
	s := &second{m: m, c: c, table: slices.Repeat([]int{-1}, max(0, m.Table))}
	for _, g := range m.Globals {
		s.globals = append(s.globals, g.Value)
	}
	for _, x := range m.Elems {
		copy(s.table[x.At:], x.Funcs)
	}
	for _, l := range m.Mems {
		s.mems = append(s.mems, make([]byte, l.Min*page))
	}
	for _, x := range m.Datas {
		copy(s.mems[x.Mem][x.At:], x.Bytes)
	}
	return s
}

// over is thrown where a call ends ahead of its last instruction.
type over struct {
	run.Outcome
}

// call calls a function, and is its trail.
func (s *second) call(f int, args []uint64) []run.Outcome {
	s.trail, s.fuel = nil, s.c.Fuel
	o := s.outcome(f, args)
	s.broken = o.Kind == run.Failed
	return append(s.trail, o)
}

// outcome is how a call ends.
func (s *second) outcome(f int, args []uint64) (o run.Outcome) {
	defer func() {
		switch x := recover().(type) {
		case nil:
		case over:
			o = x.Outcome
		default:
			panic(x)
		}
	}()
	sig, _ := s.m.Sig(f)
	if len(args) > s.c.Cells {
		return failed(api.ErrDepth)
	}
	return done(s.function(f, narrowed(sig.Params, args), 0, 0)...)
}

// narrowed is words as their types have them.
func narrowed(l []api.Type, words []uint64) []uint64 {
	out := slices.Clone(words)
	for i, t := range l {
		if t == api.I32 {
			out[i] &= math.MaxUint32
		}
	}
	return out
}

// answers is what the host gives, some words that hang on how often it was asked.
func answers(n, asked int) []uint64 {
	l := make([]uint64, n)
	for i := range l {
		l[i] = uint64(asked*asked*7+i) % 5 * 0x100000001
	}
	return l
}

// function is a function's results, with so many cells and frames below.
func (s *second) function(f int, args []uint64, below, deep int) []uint64 {
	sig, _ := s.m.Sig(f)
	if f < len(s.m.Imports) {
		s.trail = append(s.trail, hosted(f, args...))
		s.asked++
		return narrowed(sig.Results, answers(len(sig.Results), s.asked))
	}
	own := f - len(s.m.Imports)
	need := below + valid.Need(s.m, own)
	if need > s.c.Cells || deep == s.c.Frames {
		panic(over{failed(api.ErrDepth)})
	}
	s.cells, s.frames = max(s.cells, need), max(s.frames, deep+1)
	body := s.m.Funcs[own].Body
	w := &walker{second: s, l: body.L, locals: append(args, make([]uint64, len(body.Locals))...), below: below, deep: deep + 1}
	if w.walk(0, len(body.L)-1) == through {
		w.pay(1)
	}
	w.keep(len(sig.Results), 0)
	return w.stack
}

// pay takes fuel.
func (s *second) pay(n uint64) {
	if n > uint64(s.fuel) {
		panic(over{failed(api.ErrFuel)})
	}
	s.fuel -= int(n)
	s.spent += int(n)
}

// walker is a call of a function that is run.
type walker struct {
	*second
	l             []instr.Instr
	locals, stack []uint64
	below, deep   int
}

const (
	through = -1   // a row was gone through to its end
	out     = 1000 // more blocks than there are
)

func (w *walker) pop() uint64 {
	top := len(w.stack) - 1
	v := w.stack[top]
	w.stack = w.stack[:top]
	return v
}

func (w *walker) push(l ...uint64) {
	w.stack = append(w.stack, l...)
}

// keep leaves the topmost ones, and so many below them.
func (w *walker) keep(n, height int) {
	w.stack = slices.Concat(w.stack[:height], w.stack[len(w.stack)-n:])
}

// opens tells whether a block begins with an instruction.
func opens(x instr.Instr) bool {
	return 2 <= x.Code && x.Code <= 4
}

// parts is where a block's else stands, or -1, and its end.
func parts(l []instr.Instr, at int) (int, int) {
	other, open := -1, 0
	for i := at; ; i++ {
		switch {
		case opens(l[i]):
			open++
		case l[i].Code == 5 && open == 1:
			other = i
		case l[i].Code == 11:
			if open--; open == 0 {
				return other, i
			}
		}
	}
}

// walk goes through a row of instructions, and is how many blocks more a branch leaves.
func (w *walker) walk(from, to int) int {
	for at := from; at < to; at++ {
		x := w.l[at]
		w.pay(w.cost(x))
		switch {
		case opens(x):
			other, end := parts(w.l, at)
			if left := w.block(at, other, end); left >= 0 {
				return left
			}
			at = end
		case x.Code == 15:
			return out
		case x.Code == 12, x.Code == 13 && w.pop() != 0:
			return int(x.A)
		case x.Code == 13:
		case x.Code == 14:
			i := w.pop()
			return int(append(slices.Clone(x.L), x.A)[min(i, uint64(len(x.L)))])
		default:
			w.plain(x)
		}
	}
	return through
}

// block goes through a block, as often as it is a loop, and is how many blocks more are left.
func (w *walker) block(at, other, end int) int {
	from, to := at+1, end
	if other >= 0 {
		to = other
	}
	if w.l[at].Code == 4 && w.pop() == 0 {
		from, to = to, end
		if other >= 0 {
			from++
		}
	}
	height, results := len(w.stack), 1
	if w.l[at].A == 64 {
		results = 0
	}
	left := w.walk(from, to)
	for left == 0 && w.l[at].Code == 3 {
		w.keep(0, height)
		left = w.walk(from, to)
	}
	if left > 0 {
		return left - 1
	}
	if left == through {
		if other >= 0 && to == other {
			w.pay(1)
		}
		w.pay(1)
	}
	w.keep(results, height)
	return through
}

// cost is what an instruction takes.
func (w *walker) cost(x instr.Instr) uint64 {
	if x.Code < 1000 {
		return 1
	}
	return 1 + w.stack[len(w.stack)-1]/64
}

// plain does an instruction that is neither a block nor a branch.
func (w *walker) plain(x instr.Instr) {
	if group, number, bits, ok := op.Numeric(x.Code); ok {
		w.number(group, number, bits)
		return
	}
	switch x.Code {
	case 0:
		panic(over{trapped(api.Unreachable)})
	case 16:
		w.within(int(x.A))
	case 17:
		w.indirect(x)
	case 26:
		w.pop()
	case 27:
		c, b, a := w.pop(), w.pop(), w.pop()
		w.push(map[bool]uint64{true: b, false: a}[c == 0])
	case 32:
		w.push(w.locals[x.A])
	case 33, 34:
		w.locals[x.A] = w.pop()
		if x.Code == 34 {
			w.push(w.locals[x.A])
		}
	case 35:
		w.push(w.globals[x.A])
	case 36:
		w.globals[x.A] = w.pop()
	case 65, 66:
		w.push(x.A)
	case 167:
		w.push(w.pop() & math.MaxUint32)
	case 172, 173, 192, 193, 194, 195, 196:
		w.extend(x.Code)
	default:
		w.memory(x)
	}
}

// number does what layer 5 does.
func (w *walker) number(group, number, bits int) {
	b := w.pop()
	var v uint64
	var trap api.Trap
	switch group {
	case 0:
		v, trap, _ = word.Binary(number, bits, w.pop(), b)
	case 1:
		v, _ = word.Test(number, bits, w.pop(), b)
	default:
		v, _ = word.Unary(number, bits, b)
	}
	if trap != api.NoTrap {
		panic(over{trapped(trap)})
	}
	w.push(v)
}

// extend lets a word be of more bits.
func (w *walker) extend(code int) {
	a := w.pop()
	switch code {
	case 172, 196:
		a = uint64(int64(int32(a)))
	case 192:
		a = uint64(uint32(int8(a)))
	case 193:
		a = uint64(uint32(int16(a)))
	case 194:
		a = uint64(int8(a))
	case 195:
		a = uint64(int16(a))
	}
	w.push(a)
}

// within calls a function.
func (w *walker) within(f int) {
	sig, _ := w.m.Sig(f)
	height := len(w.stack) - len(sig.Params)
	args := slices.Clone(w.stack[height:])
	w.stack = w.stack[:height]
	w.push(w.function(f, args, w.below+len(w.locals)+height, w.deep)...)
}

// indirect calls what stands in the table.
func (w *walker) indirect(x instr.Instr) {
	i := w.pop()
	if i >= uint64(len(w.table)) || w.table[i] < 0 {
		panic(over{trapped(api.Undefined)})
	}
	if got, _ := w.m.Sig(w.table[i]); got.Print() != w.m.Sigs[x.A].Print() {
		panic(over{trapped(api.Mismatch)})
	}
	w.within(w.table[i])
}

// memory does what asks memories.
func (w *walker) memory(x instr.Instr) {
	if x.Code == 1 {
		return
	}
	mem := &w.mems[x.A]
	switch x.Code {
	case 63:
		w.push(uint64(len(*mem) / page))
	case 64:
		w.push(w.grow(mem, w.m.Mems[x.A], w.pop()))
	case 64522:
		n, at, to := w.pop(), w.pop(), w.pop()
		source := w.span(w.mems[x.B], at, 0, n)
		copy(w.span(*mem, to, 0, n), slices.Clone(source))
	case 64523:
		n, v, at := w.pop(), w.pop(), w.pop()
		for i := range w.span(*mem, at, 0, n) {
			(*mem)[int(at)+i] = byte(v)
		}
	default:
		w.access(x, *mem)
	}
}

// grow lets a memory have more pages.
func (w *walker) grow(mem *[]byte, l types.Limits, n uint64) uint64 {
	had := uint64(len(*mem) / page)
	if n > uint64(l.Most(api.MaxPages))-had {
		if l.Wide {
			return math.MaxUint64
		}
		return math.MaxUint32
	}
	*mem = append(*mem, make([]byte, n*page)...)
	return had
}

// span is bytes of a memory that are there.
func (w *walker) span(mem []byte, at, offset, n uint64) []byte {
	size := uint64(len(mem))
	if at > size || offset > size || n > size || at+offset+n > size {
		panic(over{trapped(api.Bounds)})
	}
	return mem[at+offset:][:n]
}

// access does loads and stores.
func (w *walker) access(x instr.Instr, mem []byte) {
	info, _ := op.Find(x.Code)
	n, _ := op.Width(x.Code)
	if len(info.Gives) == 0 {
		v := w.pop()
		b := w.span(mem, w.pop(), x.B, uint64(n))
		for i := range b {
			b[i] = byte(v >> (8 * i))
		}
		return
	}
	signed := info.Name[len(info.Name)-2:] == "_s"
	v, _ := conv.Load(w.span(mem, w.pop(), x.B, uint64(n)), types.Bits(info.Gives[0]), signed)
	w.push(v)
}
