package module

import (
	"slices"

	"grommet/api"
	"grommet/types"
)

// How many there may be.
const (
	mostSigs    = 50
	mostImports = 20
	mostPlaces  = 1000
	mostGlobals = 50
	mostExports = 50
	mostElems   = 20
	mostListed  = 20 // functions of an element
	mostDatas   = 20
	mostBytes   = 4096
)

// narrow is how many words of 32 bits, and addresses of so many, there are.
const narrow = 1 << 32

// part is a part's name, and what looks at it.
type part struct {
	name string
	look func() api.Errno
}

// Fit is the first part that isn't as it must be.
func (m *Module) Fit() (string, api.Errno) {
	if m == nil {
		return "", api.ErrState
	}
	// Each part may rely on those ahead of it.
	parts := [...]part{
		{"sigs", m.sigs},
		{"imports", m.imports},
		{"funcs", m.funcs},
		{"table", m.table},
		{"mems", m.mems},
		{"globals", m.globals},
		{"exports", m.exports},
		{"start", m.start},
		{"elems", m.elems},
		{"data", m.datas},
	}
	for _, p := range parts {
		if e := p.look(); e != api.OK {
			return p.name, e
		}
	}
	return "", api.OK
}

// each looks at a list's things one by one, if they aren't too many.
func each[T any](l []T, most int, look func(T) api.Errno) api.Errno {
	if len(l) > most {
		return api.ErrLong
	}
	for _, x := range l {
		if e := look(x); e != api.OK {
			return e
		}
	}
	return api.OK
}

// unless is an error, if something doesn't hold.
func unless(holds bool, e api.Errno) api.Errno {
	if holds {
		return api.OK
	}
	return e
}

func (m *Module) sigs() api.Errno {
	return each(m.Sigs, mostSigs, func(s types.Sig) api.Errno {
		return unless(s.Right(), api.ErrType)
	})
}

func (m *Module) imports() api.Errno {
	return each(m.Imports, mostImports, func(x Import) api.Errno {
		if !Named(x.Module) || !Named(x.Name) {
			return api.ErrName
		}
		return unless(within(x.Sig, len(m.Sigs)), api.ErrRange)
	})
}

func (m *Module) funcs() api.Errno {
	return each(m.Funcs, api.MaxFuncs-len(m.Imports), func(x Func) api.Errno {
		return unless(within(x.Sig, len(m.Sigs)), api.ErrRange)
	})
}

func (m *Module) table() api.Errno {
	if m.Table > mostPlaces {
		return api.ErrLong
	}
	return unless(m.Table >= NoTable, api.ErrRange)
}

func (m *Module) mems() api.Errno {
	return each(m.Mems, api.MaxMems, func(l types.Limits) api.Errno {
		return unless(l.Right(api.MaxPages), api.ErrType)
	})
}

func (m *Module) globals() api.Errno {
	return each(m.Globals, mostGlobals, func(x Global) api.Errno {
		holds := x.Type == api.I64 || x.Type == api.I32 && x.Value < narrow
		return unless(holds, api.ErrType)
	})
}

func (m *Module) exports() api.Errno {
	names := map[string]struct{}{}
	return each(m.Exports, mostExports, func(x Export) api.Errno {
		if _, had := names[x.Name]; had || !Named(x.Name) {
			return api.ErrName
		}
		names[x.Name] = struct{}{}
		return unless(m.there(x), api.ErrRange)
	})
}

// there tells whether there is what an export tells of.
func (m *Module) there(x Export) bool {
	tables := 0
	if m.Table >= 0 {
		tables = 1
	}
	counts := [...]int{
		KindFunc:   m.Count(),
		KindTable:  tables,
		KindMem:    len(m.Mems),
		KindGlobal: len(m.Globals),
	}
	return within(x.Kind, len(counts)) && within(x.Index, counts[x.Kind])
}

func (m *Module) start() api.Errno {
	if m.Start == NoStart {
		return api.OK
	}
	s, ok := m.Sig(m.Start)
	if !ok {
		return api.ErrRange
	}
	return unless(types.Same(s, types.Sig{}), api.ErrType)
}

func (m *Module) elems() api.Errno {
	missing := func(f int) bool { return !within(f, m.Count()) }
	return each(m.Elems, mostElems, func(x Elem) api.Errno {
		if len(x.Funcs) > mostListed {
			return api.ErrLong
		}
		holds := m.Table >= 0 && x.At < narrow && !slices.ContainsFunc(x.Funcs, missing)
		return unless(holds, api.ErrRange)
	})
}

func (m *Module) datas() api.Errno {
	return each(m.Datas, mostDatas, func(x Data) api.Errno {
		if len(x.Bytes) > mostBytes {
			return api.ErrLong
		}
		holds := within(x.Mem, len(m.Mems)) && (m.Mems[x.Mem].Wide || x.At < narrow)
		return unless(holds, api.ErrRange)
	})
}
