package decode

import (
	"grommet/api"
	"grommet/instr"
	"grommet/leb"
	"grommet/module"
	"grommet/types"
)

// Encode is a module's bytes.
func Encode(m *module.Module) ([]byte, api.Errno) {
	if _, e := m.Fit(); e != api.OK {
		return nil, e
	}
	codes, e := bodies(m.Funcs)
	if e != api.OK {
		return nil, e
	}
	out := []byte(head)
	for number, part := range parts(m, codes) {
		if len(part) > 0 {
			out = append(out, byte(number))
			out = append(out, sized(part)...)
		}
	}
	if len(out) > api.MaxModule {
		return nil, api.ErrLong
	}
	return out, api.OK
}

// bodies are the bytes of the functions' bodies.
func bodies(l []module.Func) ([][]byte, api.Errno) {
	var out [][]byte
	for _, f := range l {
		b, e := f.Body.Encode()
		if e != api.OK {
			return nil, e
		}
		out = append(out, b)
	}
	return out, api.OK
}

// parts are, by sections' numbers, the bytes of each one, without any of one that has no things.
func parts(m *module.Module, codes [][]byte) [sections][]byte {
	p := [sections][]byte{
		sigSection:    some(m.Sigs, sig),
		importSection: some(m.Imports, imported),
		funcSection:   some(m.Funcs, func(f module.Func) []byte { return index(f.Sig) }),
		memSection:    some(m.Mems, memory),
		globalSection: some(m.Globals, global),
		exportSection: some(m.Exports, export),
		elemSection:   some(m.Elems, elem),
		codeSection:   some(codes, sized),
		dataSection:   some(m.Datas, func(d module.Data) []byte { return data(d, m.Mems[d.Mem].Wide) }),
	}
	if m.Table != module.NoTable {
		p[tableSection] = list([]int{m.Table}, table)
	}
	if m.Start != module.NoStart {
		p[startSection] = index(m.Start)
	}
	return p
}

// some is the bytes of a list, if it has things.
func some[T any](l []T, thing func(T) []byte) []byte {
	if len(l) == 0 {
		return nil
	}
	return list(l, thing)
}

// list is how many things there are, and their bytes.
func list[T any](l []T, thing func(T) []byte) []byte {
	out := index(len(l))
	for _, x := range l {
		out = append(out, thing(x)...)
	}
	return out
}

// sized is how many bytes there are, and these.
func sized(b []byte) []byte {
	return append(index(len(b)), b...)
}

// index is the bytes of a number that isn't below 0.
func index(n int) []byte {
	return leb.Put(nil, uint64(n))
}

func sig(s types.Sig) []byte {
	one := func(t api.Type) []byte { return []byte{byte(t)} }
	out := append([]byte{sigMark}, list(s.Params, one)...)
	return append(out, list(s.Results, one)...)
}

func imported(x module.Import) []byte {
	out := append(sized([]byte(x.Module)), sized([]byte(x.Name))...)
	return append(append(out, funcImport), index(x.Sig)...)
}

func table(places int) []byte {
	return append([]byte{tableMark, noMost}, index(places)...)
}

func memory(l types.Limits) []byte {
	var flags byte
	if l.Wide {
		flags |= isWide
	}
	if l.Max < 0 {
		return append([]byte{flags}, index(l.Min)...)
	}
	return append(append([]byte{flags | hasMax}, index(l.Min)...), index(l.Max)...)
}

func global(x module.Global) []byte {
	change := byte(fixed)
	if x.Mutable {
		change = mutable
	}
	return append([]byte{byte(x.Type), change}, constant(x.Type == api.I64, x.Value)...)
}

// constant is the bytes of a Const, and its end.
func constant(is64 bool, word uint64) []byte {
	x := instr.Instr{Code: opConst32, A: word}
	if is64 {
		x.Code = opConst64
	}
	out, _ := x.Encode()
	return append(out, opEnd)
}

func export(x module.Export) []byte {
	return append(append(sized([]byte(x.Name)), byte(x.Kind)), index(x.Index)...)
}

func elem(x module.Elem) []byte {
	out := append([]byte{plainElem}, constant(false, x.At)...)
	return append(out, list(x.Funcs, index)...)
}

// data is the bytes of data, of a memory whose addresses have 64 bits, or not.
func data(x module.Data, is64 bool) []byte {
	out := []byte{firstMem}
	if x.Mem != 0 {
		out = append([]byte{toldMem}, index(x.Mem)...)
	}
	out = append(out, constant(is64, x.At)...)
	return append(out, sized(x.Bytes)...)
}
