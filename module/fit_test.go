package module_test

import (
	"math"
	"math/rand"
	"regexp"
	"strconv"
	"strings"
	"testing"

	"grommet/api"
	"grommet/module"
	"grommet/types"
)

// fit holds Fit against what is wanted.
func fit(t *testing.T, m *module.Module, part string, want api.Errno) {
	t.Helper()
	if s, e := m.Fit(); s != part || e != want {
		t.Errorf("Fit: %q, %d, not %q, %d, of %+v", s, e, part, want, m)
	}
}

// most is a module with as much of all as there may be.
func most() *module.Module {
	m := &module.Module{Table: 1000, Start: 99}
	for i := range 50 {
		long := make([]api.Type, 20)
		for j := range long {
			long[j] = []api.Type{api.I32, api.I64}[(i+j)%2]
		}
		m.Sigs = append(m.Sigs, types.Sig{Params: long, Results: append([]api.Type(nil), long...)})
		m.Globals = append(m.Globals, module.Global{Type: api.I64, Mutable: i%2 == 0, Value: math.MaxUint64})
		m.Exports = append(m.Exports, module.Export{Name: "n" + strings.Repeat("~", 27) + strconv.Itoa(10+i), Kind: 0, Index: 99})
	}
	m.Sigs[49] = types.Sig{}
	for range 20 {
		m.Imports = append(m.Imports, module.Import{Module: strings.Repeat("!", 30), Name: strings.Repeat("~", 30), Sig: 49})
		m.Elems = append(m.Elems, module.Elem{At: math.MaxUint32, Funcs: make([]int, 20)})
		m.Datas = append(m.Datas, module.Data{Mem: 3, At: math.MaxUint32, Bytes: make([]byte, 4096)})
	}
	for range 80 {
		m.Funcs = append(m.Funcs, module.Func{Sig: 49})
	}
	for range 4 {
		m.Mems = append(m.Mems, types.Limits{Min: 65536, Max: 65536})
	}
	return m
}

// TestFit is of P13.1: what is fit.
func TestFit(t *testing.T) {
	fit(t, some(), "", api.OK)
	fit(t, most(), "", api.OK)
	m := module.Empty()
	m.Sigs = []types.Sig{{}}
	for range 100 {
		m.Funcs = append(m.Funcs, module.Func{})
	}
	fit(t, m, "", api.OK)
	m.Funcs = append(m.Funcs, module.Func{})
	fit(t, m, "funcs", api.ErrLong)
	m.Imports, m.Funcs = []module.Import{{Module: "a", Name: "b"}}, m.Funcs[:100]
	fit(t, m, "funcs", api.ErrLong)
	m.Funcs = m.Funcs[:99]
	fit(t, m, "", api.OK)
	fit(t, &module.Module{}, "start", api.ErrRange)
	fit(t, &module.Module{Start: -1}, "", api.OK)
}

// TestFitBodies is of P13.1: bodies are let be.
func TestFitBodies(t *testing.T) {
	m := some()
	m.Funcs[0].Body = body(make([]api.Type, 1000), -1, 5, 67, 11, 11)
	m.Funcs[1].Body = body(nil)
	m.Funcs[2].Body = body(nil, make([]int, 10000)...)
	fit(t, m, "", api.OK)
}

// spoil is a change of one part, and what Fit answers then.
type spoil struct {
	part string
	err  api.Errno
	do   func(*module.Module)
}

// parts are the parts in their order.
var parts = []string{"sigs", "imports", "funcs", "table", "mems", "globals", "exports", "start", "elems", "data"}

// lists are spoils of too many.
func lists() []spoil {
	return []spoil{
		{"sigs", api.ErrLong, func(m *module.Module) { m.Sigs = append(most().Sigs, m.Sigs[0]) }},
		{"sigs", api.ErrLong, func(m *module.Module) { m.Sigs = make([]types.Sig, 100_000) }},
		{"imports", api.ErrLong, func(m *module.Module) { m.Imports = append(most().Imports[:19:19], m.Imports[0], m.Imports[1]) }},
		{"imports", api.ErrLong, func(m *module.Module) { m.Imports = make([]module.Import, 100_000) }},
		{"funcs", api.ErrLong, func(m *module.Module) { m.Funcs = make([]module.Func, 101) }},
		{"funcs", api.ErrLong, func(m *module.Module) { m.Funcs = make([]module.Func, 100_000) }},
		{"table", api.ErrLong, func(m *module.Module) { m.Table = 1001 }},
		{"table", api.ErrLong, func(m *module.Module) { m.Table = math.MaxInt }},
		{"mems", api.ErrLong, func(m *module.Module) { m.Mems = append(most().Mems, m.Mems[0]) }},
		{"mems", api.ErrLong, func(m *module.Module) { m.Mems = make([]types.Limits, 100_000) }},
		{"globals", api.ErrLong, func(m *module.Module) { m.Globals = append(most().Globals, m.Globals[0]) }},
		{"globals", api.ErrLong, func(m *module.Module) { m.Globals = make([]module.Global, 51) }},
		{"exports", api.ErrLong, func(m *module.Module) { m.Exports = append(most().Exports, m.Exports[0]) }},
		{"exports", api.ErrLong, func(m *module.Module) { m.Exports = make([]module.Export, 51) }},
		{"elems", api.ErrLong, func(m *module.Module) { m.Elems = make([]module.Elem, 21) }},
		{"elems", api.ErrLong, func(m *module.Module) { m.Elems[1].Funcs = make([]int, 21) }},
		{"data", api.ErrLong, func(m *module.Module) { m.Datas = make([]module.Data, 21) }},
		{"data", api.ErrLong, func(m *module.Module) { m.Datas[2].Bytes = make([]byte, 4097) }},
	}
}

// kinds are spoils of types and names.
func kinds() []spoil {
	return []spoil{
		{"sigs", api.ErrType, func(m *module.Module) { m.Sigs[3].Params = make([]api.Type, 1) }},
		{"sigs", api.ErrType, func(m *module.Module) { m.Sigs[0].Results = []api.Type{api.I32, 125} }},
		{"sigs", api.ErrType, func(m *module.Module) { m.Sigs[1].Params = append(most().Sigs[0].Params, api.I32) }},
		{"imports", api.ErrName, func(m *module.Module) { m.Imports[0].Module = "" }},
		{"imports", api.ErrName, func(m *module.Module) { m.Imports[1].Name = "" }},
		{"imports", api.ErrName, func(m *module.Module) { m.Imports[1].Module = "a b" }},
		{"imports", api.ErrName, func(m *module.Module) { m.Imports[0].Name = strings.Repeat("x", 31) }},
		{"mems", api.ErrType, func(m *module.Module) { m.Mems[0].Min = -1 }},
		{"mems", api.ErrType, func(m *module.Module) { m.Mems[0].Min = 3 }},
		{"mems", api.ErrType, func(m *module.Module) { m.Mems[1].Min = 65537 }},
		{"mems", api.ErrType, func(m *module.Module) { m.Mems[1].Max = 65537 }},
		{"globals", api.ErrType, func(m *module.Module) { m.Globals[0].Value = 1 << 32 }},
		{"globals", api.ErrType, func(m *module.Module) { m.Globals[1].Type = api.I32 }},
		{"globals", api.ErrType, func(m *module.Module) { m.Globals[0].Type = 125 }},
		{"globals", api.ErrType, func(m *module.Module) { m.Globals[1] = module.Global{} }},
		{"globals", api.ErrType, func(m *module.Module) { m.Globals[1] = module.Global{Type: 128} }},
		{"exports", api.ErrName, func(m *module.Module) { m.Exports[1].Name = "" }},
		{"exports", api.ErrName, func(m *module.Module) { m.Exports[1].Name = "\x7f" }},
		{"exports", api.ErrName, func(m *module.Module) { m.Exports[3].Name = "f" }},
		{"exports", api.ErrName, func(m *module.Module) { m.Exports[1] = m.Exports[0] }},
		{"start", api.ErrType, func(m *module.Module) { m.Start = 1 }},
		{"start", api.ErrType, func(m *module.Module) { m.Start = 3 }},
		{"start", api.ErrType, func(m *module.Module) { m.Start = 4 }},
	}
}

// numbers are spoils of numbers of what there isn't.
func numbers() []spoil {
	l := []spoil{
		{"table", api.ErrRange, func(m *module.Module) { m.Table = -2 }},
		{"table", api.ErrRange, func(m *module.Module) { m.Table = math.MinInt }},
		{"elems", api.ErrRange, func(m *module.Module) { m.Elems[0].At = 1 << 32 }},
		{"elems", api.ErrRange, func(m *module.Module) { m.Elems[1].At = math.MaxUint64 }},
		{"data", api.ErrRange, func(m *module.Module) { m.Datas[0].At = 1 << 32 }},
		{"data", api.ErrRange, func(m *module.Module) { m.Datas[2].Mem = 0 }},
	}
	for _, n := range []int{-1, -2, 5, 6, math.MaxInt, math.MinInt} {
		l = append(l, []spoil{
			{"imports", api.ErrRange, func(m *module.Module) { m.Imports[0].Sig = n }},
			{"imports", api.ErrRange, func(m *module.Module) { m.Imports[1].Sig = n }},
			{"funcs", api.ErrRange, func(m *module.Module) { m.Funcs[0].Sig = n }},
			{"funcs", api.ErrRange, func(m *module.Module) { m.Funcs[2].Sig = n }},
			{"exports", api.ErrRange, func(m *module.Module) { m.Exports[0].Index = n }},
			{"exports", api.ErrRange, func(m *module.Module) { m.Exports[1].Index = n }},
			{"exports", api.ErrRange, func(m *module.Module) { m.Exports[2].Index = n }},
			{"exports", api.ErrRange, func(m *module.Module) { m.Exports[3].Index = n }},
			{"exports", api.ErrRange, func(m *module.Module) { m.Exports[0].Kind = n }},
			{"elems", api.ErrRange, func(m *module.Module) { m.Elems[0].Funcs[0] = n }},
			{"elems", api.ErrRange, func(m *module.Module) { m.Elems[0].Funcs[1] = n }},
			{"data", api.ErrRange, func(m *module.Module) { m.Datas[1].Mem = n }},
		}...)
		if n != -1 {
			l = append(l, spoil{"start", api.ErrRange, func(m *module.Module) { m.Start = n }})
		}
	}
	return append(l, []spoil{
		{"imports", api.ErrRange, func(m *module.Module) { m.Imports[0].Sig = 4 }},
		{"funcs", api.ErrRange, func(m *module.Module) { m.Funcs[1].Sig = 4 }},
		{"exports", api.ErrRange, func(m *module.Module) { m.Exports[1].Index = 1 }},
		{"exports", api.ErrRange, func(m *module.Module) { m.Exports[2].Index = 2 }},
		{"exports", api.ErrRange, func(m *module.Module) { m.Exports[3].Index = 2 }},
		{"exports", api.ErrRange, func(m *module.Module) { m.Exports[3].Kind = 4 }},
		{"data", api.ErrRange, func(m *module.Module) { m.Datas[2].Mem = 2 }},
	}...)
}

// spoils are all of these.
func spoils() []spoil {
	return append(append(lists(), kinds()...), numbers()...)
}

// TestSpoils is of P13.1: one thing that isn't as it must be.
func TestSpoils(t *testing.T) {
	for _, s := range spoils() {
		m := some()
		s.do(m)
		fit(t, m, s.part, s.err)
	}
}

// rank is where a part stands among the parts.
func rank(part string) int {
	for i, p := range parts {
		if p == part {
			return i
		}
	}
	panic(part)
}

// TestOrder is of P13.1: of two parts that aren't as they must be the first one is told.
func TestOrder(t *testing.T) {
	all := spoils()
	for _, a := range all {
		for _, b := range all {
			if rank(a.part) < rank(b.part) {
				m := some()
				b.do(m)
				a.do(m)
				fit(t, m, a.part, a.err)
			}
		}
	}
}

// TestWithout is of P13.1: exports and elements of what there isn't at all.
func TestWithout(t *testing.T) {
	for kind := range 4 {
		m := module.Empty()
		m.Exports = []module.Export{{Name: "x", Kind: kind}}
		fit(t, m, "exports", api.ErrRange)
		m.Exports[0].Kind = 1
		m.Table = 0
		fit(t, m, "", api.OK)
	}
	m := module.Empty()
	m.Elems = []module.Elem{{}}
	fit(t, m, "elems", api.ErrRange)
	m.Table = 0
	fit(t, m, "", api.OK)
	m.Elems[0].Funcs = []int{0}
	fit(t, m, "elems", api.ErrRange)
	m = module.Empty()
	m.Datas = []module.Data{{}}
	fit(t, m, "data", api.ErrRange)
	m.Mems = []types.Limits{{Max: 0}}
	fit(t, m, "", api.OK)
}

// TestOneThing is of P13.1: of one thing, or of several of a part, where two are wrong.
func TestOneThing(t *testing.T) {
	for _, s := range []spoil{
		{"sigs", api.ErrLong, func(m *module.Module) { m.Sigs = make([]types.Sig, 51); m.Sigs[0].Params = make([]api.Type, 21) }},
		{"imports", api.ErrName, func(m *module.Module) { m.Imports[0] = module.Import{Module: "env", Sig: 9} }},
		{"imports", api.ErrName, func(m *module.Module) { m.Imports[0] = module.Import{Name: "put", Sig: 9} }},
		{"imports", api.ErrName, func(m *module.Module) { m.Imports[0].Name, m.Imports[1].Sig = " ", -1 }},
		{"imports", api.ErrRange, func(m *module.Module) { m.Imports[1].Name, m.Imports[0].Sig = " ", -1 }},
		{"imports", api.ErrLong, func(m *module.Module) { m.Imports = append(most().Imports, module.Import{Sig: -1}) }},
		{"exports", api.ErrName, func(m *module.Module) { m.Exports[1] = module.Export{Name: "f", Kind: 4} }},
		{"exports", api.ErrName, func(m *module.Module) { m.Exports[1] = module.Export{Name: "", Index: -1} }},
		{"exports", api.ErrName, func(m *module.Module) { m.Exports[1].Name, m.Exports[2].Index = "f", 2 }},
		{"exports", api.ErrRange, func(m *module.Module) { m.Exports[2].Name, m.Exports[1].Index = "f", 1 }},
		{"exports", api.ErrRange, func(m *module.Module) { m.Exports[2].Name, m.Exports[2].Index, m.Exports[3].Name = "a", 7, "a" }},
		{"start", api.ErrRange, func(m *module.Module) { m.Start = 5 }},
		{"elems", api.ErrLong, func(m *module.Module) { m.Elems[0] = module.Elem{At: 1 << 32, Funcs: append(make([]int, 20), -1)} }},
		{"elems", api.ErrLong, func(m *module.Module) { m.Table, m.Exports, m.Elems[0].Funcs = -1, nil, make([]int, 21) }},
		{"elems", api.ErrRange, func(m *module.Module) { m.Table, m.Exports, m.Elems[1].Funcs = -1, nil, make([]int, 21) }},
		{"elems", api.ErrRange, func(m *module.Module) { m.Elems[0].At, m.Elems[1].Funcs = 1<<32, make([]int, 21) }},
		{"elems", api.ErrLong, func(m *module.Module) { m.Elems = append(make([]module.Elem, 20), module.Elem{At: 1 << 32}) }},
		{"data", api.ErrLong, func(m *module.Module) { m.Datas[0] = module.Data{Mem: 2, Bytes: make([]byte, 4097)} }},
		{"data", api.ErrLong, func(m *module.Module) { m.Datas[0] = module.Data{At: 1 << 32, Bytes: make([]byte, 4097)} }},
		{"data", api.ErrRange, func(m *module.Module) { m.Datas[0].At, m.Datas[1].Bytes = 1<<32, make([]byte, 4097) }},
		{"data", api.ErrLong, func(m *module.Module) { m.Datas[1].Mem, m.Datas[0].Bytes = -1, make([]byte, 4097) }},
		{"globals", api.ErrLong, func(m *module.Module) { m.Globals = append(most().Globals, module.Global{}) }},
		{"mems", api.ErrLong, func(m *module.Module) { m.Mems = append(most().Mems, types.Limits{Min: 2, Max: 1}) }},
	} {
		m := some()
		s.do(m)
		fit(t, m, s.part, s.err)
	}
}

// fault is what is wrong with a thing: the lowest key is told.
type fault struct {
	part, thing, order int
	err                api.Errno
}

// faults are gathered from all parts, behind each other or not.
type faults struct {
	m *module.Module
	l []fault
}

// add adds a fault, if it is one; thing -1 is the whole part.
func (f *faults) add(wrong bool, part string, thing, order int, err api.Errno) {
	if wrong {
		f.l = append(f.l, fault{rank(part), thing, order, err})
	}
}

var name = regexp.MustCompile(`\A[!-~]{1,30}\z`)

// functions gathers what is wrong with signatures, imports, functions and the start.
func (f *faults) functions() {
	m := f.m
	f.add(len(m.Sigs) > 50, "sigs", -1, 0, api.ErrLong)
	for i, s := range m.Sigs {
		f.add(len(s.Params) > 20 || len(s.Results) > 20, "sigs", i, 0, api.ErrType)
		for _, x := range append(append([]api.Type(nil), s.Params...), s.Results...) {
			f.add(x != 127 && x != 126, "sigs", i, 0, api.ErrType)
		}
	}
	f.add(len(m.Imports) > 20, "imports", -1, 0, api.ErrLong)
	for i, x := range m.Imports {
		f.add(!name.MatchString(x.Module) || !name.MatchString(x.Name), "imports", i, 0, api.ErrName)
		f.add(x.Sig < 0 || x.Sig >= len(m.Sigs), "imports", i, 1, api.ErrRange)
	}
	f.add(len(m.Funcs)+len(m.Imports) > 100, "funcs", -1, 0, api.ErrLong)
	for i, x := range m.Funcs {
		f.add(x.Sig < 0 || x.Sig >= len(m.Sigs), "funcs", i, 0, api.ErrRange)
	}
	var all []int
	for _, x := range m.Imports {
		all = append(all, x.Sig)
	}
	for _, x := range m.Funcs {
		all = append(all, x.Sig)
	}
	f.add(m.Start < -1 || m.Start >= len(all), "start", -1, 0, api.ErrRange)
	if len(f.l) == 0 && m.Start >= 0 {
		s := m.Sigs[all[m.Start]]
		f.add(len(s.Params) > 0 || len(s.Results) > 0, "start", -1, 1, api.ErrType)
	}
}

// stores gathers what is wrong with the table, memories, globals, elements and data.
func (f *faults) stores() {
	m := f.m
	f.add(m.Table < -1, "table", -1, 0, api.ErrRange)
	f.add(m.Table > 1000, "table", -1, 0, api.ErrLong)
	f.add(len(m.Mems) > 4, "mems", -1, 0, api.ErrLong)
	for i, x := range m.Mems {
		f.add(x.Min < 0 || x.Min > 65536 || x.Max >= 0 && (x.Max > 65536 || x.Min > x.Max), "mems", i, 0, api.ErrType)
	}
	f.add(len(m.Globals) > 50, "globals", -1, 0, api.ErrLong)
	for i, x := range m.Globals {
		f.add(x.Type != 127 && x.Type != 126, "globals", i, 0, api.ErrType)
		f.add(x.Type == 127 && x.Value>>32 != 0, "globals", i, 0, api.ErrType)
	}
	f.add(len(m.Elems) > 20, "elems", -1, 0, api.ErrLong)
	for i, x := range m.Elems {
		f.add(len(x.Funcs) > 20, "elems", i, 0, api.ErrLong)
		f.add(m.Table < 0 || x.At>>32 != 0, "elems", i, 1, api.ErrRange)
		for _, n := range x.Funcs {
			f.add(n < 0 || n >= len(m.Imports)+len(m.Funcs), "elems", i, 1, api.ErrRange)
		}
	}
	f.add(len(m.Datas) > 20, "data", -1, 0, api.ErrLong)
	for i, x := range m.Datas {
		there := x.Mem >= 0 && x.Mem < len(m.Mems)
		f.add(len(x.Bytes) > 4096, "data", i, 0, api.ErrLong)
		f.add(!there, "data", i, 1, api.ErrRange)
		f.add(there && !m.Mems[max(0, min(x.Mem, len(m.Mems)-1))].Wide && x.At>>32 != 0, "data", i, 1, api.ErrRange)
	}
}

// exports gathers what is wrong with exports.
func (f *faults) exports() {
	m := f.m
	f.add(len(m.Exports) > 50, "exports", -1, 0, api.ErrLong)
	for i, x := range m.Exports {
		f.add(!name.MatchString(x.Name), "exports", i, 0, api.ErrName)
		for _, y := range m.Exports[:i] {
			f.add(x.Name == y.Name, "exports", i, 0, api.ErrName)
		}
		there := false
		switch x.Kind {
		case 0:
			there = x.Index < len(m.Imports)+len(m.Funcs)
		case 1:
			there = x.Index == 0 && m.Table != -1
		case 2:
			there = x.Index < len(m.Mems)
		case 3:
			there = x.Index < len(m.Globals)
		}
		f.add(!there || x.Index < 0, "exports", i, 1, api.ErrRange)
	}
}

// wrong is what Fit must answer, worked out from all faults.
func wrong(m *module.Module) (string, api.Errno) {
	f := faults{m: m}
	f.functions()
	f.stores()
	f.exports()
	if len(f.l) == 0 {
		return "", api.OK
	}
	key := func(x fault) int { return (x.part*1_000_000+x.thing+1)*10 + x.order }
	first := f.l[0]
	for _, x := range f.l {
		if key(x) < key(first) {
			first = x
		}
	}
	return parts[first.part], first.err
}

// maker makes modules that are nearly fit.
type maker struct {
	*rand.Rand
	odd int // one choice of so many is an odd one
}

// strange tells whether the next choice is an odd one.
func (r maker) strange() bool { return r.Intn(r.odd) == 0 }

// among is a number below n, or one that is nearly so.
func (r maker) among(n int) int {
	if n > 0 && !r.strange() {
		return r.Intn(n)
	}
	return []int{-1, n, n + 1, -1 << 40, 1 << 40}[r.Intn(5)]
}

// many is how many things there are, at most n, or nearly so.
func (r maker) many(n int) int {
	if r.strange() {
		return n + r.Intn(2)
	}
	return r.Intn(min(n, 4) + 1)
}

// text is a name, or nearly one.
func (r maker) text() string {
	s := string([]byte{byte(33 + r.Intn(94)), byte(33 + r.Intn(94))})
	if r.strange() {
		return []string{"", "a b", "f", "\x7f", strings.Repeat("x", 31), strings.Repeat("y", 30), "\u00e9"}[r.Intn(7)]
	}
	return s
}

// types are a list of types.
func (r maker) types() []api.Type {
	l := make([]api.Type, r.many(20))
	for i := range l {
		l[i] = r.kind()
	}
	if r.Intn(2) == 0 {
		return nil
	}
	return l
}

// kind is a type.
func (r maker) kind() api.Type {
	if r.Intn(3*r.odd) == 0 {
		return []api.Type{0, 125, 128, 255}[r.Intn(4)]
	}
	return []api.Type{api.I32, api.I64}[r.Intn(2)]
}

// word is an address, or a word.
func (r maker) word() uint64 {
	if r.strange() {
		return []uint64{1 << 32, math.MaxUint64, 1<<32 + 1, math.MaxUint32}[r.Intn(4)]
	}
	return uint64(r.Intn(70000))
}

// limits are a memory's.
func (r maker) limits() types.Limits {
	l := types.Limits{Min: r.Intn(3), Max: 2 + r.Intn(3), Wide: r.Intn(2) == 0}
	if r.strange() {
		l.Max = []int{-1, -2, 0, 1, 65536, 65537}[r.Intn(6)]
	}
	if r.strange() {
		l.Min = []int{-1, 65536, 65537, 4, 5}[r.Intn(5)]
	}
	return l
}

// module is a module.
func (r maker) module() *module.Module {
	m := module.Empty()
	for range r.many(50) {
		m.Sigs = append(m.Sigs, types.Sig{Params: r.types(), Results: r.types()})
	}
	for range r.many(20) {
		m.Imports = append(m.Imports, module.Import{Module: r.text(), Name: r.text(), Sig: r.among(len(m.Sigs))})
	}
	for range r.many(100 - min(len(m.Imports), 20)) {
		m.Funcs = append(m.Funcs, module.Func{Sig: r.among(len(m.Sigs))})
	}
	m.Table = r.Intn(4) - 1
	if r.strange() {
		m.Table = []int{-2, 1000, 1001, -1}[r.Intn(4)]
	}
	for range r.many(4) {
		m.Mems = append(m.Mems, r.limits())
	}
	for range r.many(50) {
		m.Globals = append(m.Globals, module.Global{Type: r.kind(), Mutable: r.Intn(2) == 0, Value: r.word()})
	}
	for range r.many(50) {
		kind := r.Intn(4)
		n := []int{m.Count(), 1, len(m.Mems), len(m.Globals)}[kind]
		if r.strange() {
			kind = r.among(4)
		}
		m.Exports = append(m.Exports, module.Export{Name: r.text(), Kind: kind, Index: r.among(n)})
	}
	r.rest(m)
	return m
}

// rest makes a module's last parts.
func (r maker) rest(m *module.Module) {
	if r.Intn(3) == 0 {
		m.Start = r.among(m.Count())
	}
	for range r.many(20) {
		x := module.Elem{At: r.word()}
		for range r.many(20) {
			x.Funcs = append(x.Funcs, r.among(m.Count()))
		}
		m.Elems = append(m.Elems, x)
	}
	for range r.many(20) {
		m.Datas = append(m.Datas, module.Data{Mem: r.among(len(m.Mems)), At: r.word(), Bytes: make([]byte, r.many(4096))})
	}
}

// TestRandom is of P13.1: modules that are nearly fit, against all that is wrong with them.
func TestRandom(t *testing.T) {
	met := map[string]int{}
	for i := range 60_000 {
		r := maker{rand.New(rand.NewSource(int64(i))), []int{4, 15, 60, 300}[i%4]}
		m := r.module()
		part, err := wrong(m)
		fit(t, m, part, err)
		met[part+" "+strconv.Itoa(int(err))]++
		if t.Failed() {
			break
		}
	}
	for _, s := range append(spoils(), spoil{"", api.OK, nil}) {
		if n := met[s.part+" "+strconv.Itoa(int(s.err))]; n < 10 {
			t.Errorf("%q, %d: met %d times", s.part, s.err, n)
		}
	}
}
