package text

import (
	"slices"

	"grommet/api"
	"grommet/code"
	"grommet/instr"
	"grommet/module"
	"grommet/types"
)

// reader reads line by line: the words are those of the line where it stands.
type reader struct {
	words
	m      *module.Module
	latest int  // the part of which the latest line was
	open   nest // of the body that isn't closed yet
}

// part is the word that its lines begin with, and what reads the words behind that.
type part struct {
	word string
	read func(*reader)
}

// parts are all, in their order.
func parts() [10]part {
	return [...]part{
		{sigWord, (*reader).sig},
		{importWord, (*reader).imported},
		{funcWord, (*reader).function},
		{tableWord, (*reader).table},
		{memWord, (*reader).memory},
		{globalWord, (*reader).global},
		{exportWord, (*reader).export},
		{startWord, (*reader).start},
		{elemWord, (*reader).elem},
		{dataWord, (*reader).data},
	}
}

// line reads a line, and tells whether it may be, and stand there.
func (r *reader) line(s string) bool {
	r.words = split(s)
	if r.inside() {
		r.inBody()
	} else {
		r.outside()
	}
	return r.done()
}

// inside tells whether it stands in a body.
func (r *reader) inside() bool {
	return len(r.open) > 0
}

// outside reads a line of a part that is no earlier one.
func (r *reader) outside() {
	first := r.next()
	all := parts()
	i := slices.IndexFunc(all[:], func(p part) bool { return p.word == first })
	r.want(i >= r.latest)
	if r.wrong {
		return
	}
	r.latest = i
	all[i].read(r)
}

func (r *reader) sig() {
	s, e := types.ParseSig(r.next())
	r.want(e == api.OK)
	r.m.Sigs = append(r.m.Sigs, s)
}

func (r *reader) imported() {
	x := module.Import{Module: r.name(), Name: r.name(), Sig: r.number()}
	r.m.Imports = append(r.m.Imports, x)
}

func (r *reader) function() {
	r.m.Funcs = append(r.m.Funcs, module.Func{Sig: r.number()})
	r.open = begun()
}

// inBody reads a line of a body: locals, if it is the first one, or an instruction.
func (r *reader) inBody() {
	b := &r.m.Funcs[len(r.m.Funcs)-1].Body
	if r.left[0] == localsWord && b.Locals == nil && b.L == nil {
		r.locals(b)
	} else {
		r.instr(b)
	}
}

func (r *reader) locals(b *code.Body) {
	r.next()
	b.Locals = append(b.Locals, r.oneType())
	for len(r.left) > 0 && !r.wrong {
		b.Locals = append(b.Locals, r.oneType())
	}
}

func (r *reader) instr(b *code.Body) {
	x, e := instr.Parse(r.rest())
	r.want(e == api.OK && r.open.step(x.Code))
	b.L = append(b.L, x)
}

func (r *reader) table() {
	r.want(r.m.Table == module.NoTable)
	r.m.Table = r.number()
}

func (r *reader) memory() {
	l, e := types.ParseLimits(r.rest())
	r.want(e == api.OK)
	r.m.Mems = append(r.m.Mems, l)
}

func (r *reader) global() {
	x := module.Global{Type: r.oneType(), Mutable: r.oneOf(constant, variable) == 1}
	x.Value = r.word(types.Bits(x.Type))
	r.m.Globals = append(r.m.Globals, x)
}

func (r *reader) export() {
	all := kinds()
	x := module.Export{Name: r.name(), Kind: r.oneOf(all[:]...), Index: r.number()}
	r.m.Exports = append(r.m.Exports, x)
}

func (r *reader) start() {
	r.want(r.m.Start == module.NoStart)
	r.m.Start = r.number()
}

func (r *reader) elem() {
	x := module.Elem{At: r.address()}
	for len(r.left) > 0 && !r.wrong {
		x.Funcs = append(x.Funcs, r.number())
	}
	r.m.Elems = append(r.m.Elems, x)
}

func (r *reader) data() {
	x := module.Data{Mem: r.number(), At: r.address(), Bytes: r.hex()}
	r.m.Datas = append(r.m.Datas, x)
}
