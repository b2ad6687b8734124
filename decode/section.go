package decode

import (
	"grommet/api"
	"grommet/code"
	"grommet/instr"
	"grommet/module"
	"grommet/types"
)

// readers are, by sections' numbers, what reads one of its things.
func readers() [sections]func(*reader) {
	return [...]func(*reader){
		sigSection:    (*reader).sig,
		importSection: (*reader).imported,
		funcSection:   (*reader).function,
		tableSection:  (*reader).table,
		memSection:    (*reader).memory,
		globalSection: (*reader).global,
		exportSection: (*reader).export,
		startSection:  (*reader).start,
		elemSection:   (*reader).elem,
		codeSection:   (*reader).body,
		dataSection:   (*reader).data,
	}
}

func (r *reader) sig() {
	r.oneOf(sigMark)
	r.m.Sigs = append(r.m.Sigs, types.Sig{Params: r.types(), Results: r.types()})
}

// types reads how many types there are, and these.
func (r *reader) types() []api.Type {
	var l []api.Type
	for _, b := range counted(r, r.Take) {
		r.want(types.Bits(api.Type(b)) > 0)
		l = append(l, api.Type(b))
	}
	return l
}

func (r *reader) imported() {
	x := module.Import{Module: r.name(), Name: r.name()}
	r.oneOf(funcImport)
	x.Sig = r.index()
	r.m.Imports = append(r.m.Imports, x)
}

// name reads how many bytes there are, and these.
func (r *reader) name() string {
	return string(counted(r, r.Take))
}

func (r *reader) function() {
	r.m.Funcs = append(r.m.Funcs, module.Func{Sig: r.index()})
}

func (r *reader) table() {
	r.want(r.m.Table == module.NoTable)
	r.oneOf(tableMark)
	r.oneOf(noMost)
	r.m.Table = r.index()
}

func (r *reader) memory() {
	flags := r.oneOf(0, hasMax, isWide, isWide|hasMax)
	l := types.Limits{Wide: flags&isWide != 0, Max: noMax}
	bits := narrow
	if l.Wide {
		bits = wide
	}
	l.Min = r.pages(bits)
	if flags&hasMax != 0 {
		l.Max = r.pages(bits)
	}
	r.m.Mems = append(r.m.Mems, l)
}

// pages reads how many pages there are. Greater numbers, that no limits have room for, are as 2^32: none of them is right.
func (r *reader) pages(bits int) int {
	return int(min(r.number(bits), 1<<32))
}

func (r *reader) global() {
	x := module.Global{Type: api.Type(r.byte())}
	x.Mutable = r.oneOf(fixed, mutable) == mutable
	t, value := r.constant()
	r.want(t == x.Type)
	x.Value = value
	r.m.Globals = append(r.m.Globals, x)
}

// constant reads a Const, and its end: which type its word has, and this.
func (r *reader) constant() (api.Type, uint64) {
	x := next(r, func() (instr.Instr, api.Errno) { return instr.Decode(r.Cursor) })
	t := api.I32
	if x.Code == opConst64 {
		t = api.I64
	}
	r.want(x.Code == opConst32 || x.Code == opConst64)
	r.oneOf(opEnd)
	return t, x.A
}

func (r *reader) export() {
	x := module.Export{Name: r.name()}
	x.Kind = int(r.oneOf(module.KindFunc, module.KindTable, module.KindMem, module.KindGlobal))
	x.Index = r.index()
	r.m.Exports = append(r.m.Exports, x)
}

func (r *reader) start() {
	r.m.Start = r.index()
}

func (r *reader) elem() {
	r.oneOf(plainElem)
	t, at := r.constant()
	r.want(t == api.I32)
	x := module.Elem{At: at}
	for n := r.number(narrow); n > 0 && r.err == api.OK; n-- {
		x.Funcs = append(x.Funcs, r.index())
	}
	r.m.Elems = append(r.m.Elems, x)
}

func (r *reader) body() {
	b, _, e := code.Read(counted(r, r.Take))
	r.meetBody(e)
	r.bodies = append(r.bodies, b)
}

func (r *reader) data() {
	var x module.Data
	if r.oneOf(firstMem, toldMem) == toldMem {
		x.Mem = r.index()
	}
	_, x.At = r.constant()
	x.Bytes = counted(r, r.Take)
	r.m.Datas = append(r.m.Datas, x)
}
