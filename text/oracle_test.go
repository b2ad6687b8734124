package text_test

import (
	"encoding/hex"
	"regexp"
	"slices"
	"strconv"
	"strings"
	"testing"

	"grommet/api"
	"grommet/code"
	"grommet/conv"
	"grommet/decode"
	"grommet/instr"
	"grommet/module"
	"grommet/text"
	"grommet/types"
)

// shapes are what lines look like, in their parts' order; numbers are held against what they may be when they are made.
func shapes() []*regexp.Regexp {
	const n, name, kind = `(0|[1-9][0-9]*)`, `([^ ]*)`, `(i32|i64)`
	const list = `\((?:` + kind + `(?:,` + kind + `)*)?\)`
	var out []*regexp.Regexp
	for _, s := range []string{
		`sig (` + list + `->` + list + `)`,
		`import ` + name + ` ` + name + ` ` + n,
		`func ` + n,
		`table ` + n,
		`memory (` + n + ` (?:-|` + n + `)(?: i64)?)`,
		`global ` + kind + ` (var|const) (0|-?[1-9][0-9]*)`,
		`export ` + name + ` (func|table|memory|global) ` + n,
		`start ` + n,
		`elem ` + n + `((?: ` + n + `)*)`,
		`data ` + n + ` ` + n + ` x((?:[0-9a-f][0-9a-f])*)`,
		`locals((?: ` + kind + `)+)`,
	} {
		out = append(out, regexp.MustCompile(`(?s)\A`+s+`\z`))
	}
	return out
}

// model makes a module of lines.
type model struct {
	shapes []*regexp.Regexp
	m      *module.Module
	latest int
}

// number is a thing's, or that the line is none.
func number(s string) int {
	n, err := strconv.Atoi(s)
	if err != nil {
		panic(api.ErrForm)
	}
	return n
}

func address(s string) uint64 {
	n, err := strconv.ParseUint(s, 10, 64)
	if err != nil {
		panic(api.ErrForm)
	}
	return n
}

func form(holds bool) {
	if !holds {
		panic(api.ErrForm)
	}
}

// local is a type, by its name.
func local(s string) api.Type {
	return map[string]api.Type{"i32": api.I32, "i64": api.I64}[s]
}

// line makes of a line what it tells.
func (x *model) line(s string) {
	part := slices.IndexFunc(x.shapes[:10], func(r *regexp.Regexp) bool { return r.MatchString(s) })
	form(part >= x.latest)
	x.latest = part
	w, m := x.shapes[part].FindStringSubmatch(s), x.m
	switch part {
	case 0:
		sig, e := types.ParseSig(w[1])
		form(e == api.OK)
		m.Sigs = append(m.Sigs, sig)
	case 1:
		m.Imports = append(m.Imports, module.Import{Module: w[1], Name: w[2], Sig: number(w[3])})
	case 2:
		m.Funcs = append(m.Funcs, module.Func{Sig: number(w[1])})
	case 3:
		form(m.Table < 0)
		m.Table = number(w[1])
	case 4:
		l, e := types.ParseLimits(w[1])
		form(e == api.OK)
		m.Mems = append(m.Mems, l)
	case 5:
		t := local(w[1])
		n, err := strconv.ParseInt(w[3], 10, types.Bits(t))
		form(err == nil)
		v := uint64(n)
		if t == api.I32 {
			v = conv.Wrap(v)
		}
		m.Globals = append(m.Globals, module.Global{Type: t, Mutable: w[2] == "var", Value: v})
	case 6:
		m.Exports = append(m.Exports, module.Export{Name: w[1], Kind: slices.Index([]string{"func", "table", "memory", "global"}, w[2]), Index: number(w[3])})
	case 7:
		form(m.Start < 0)
		m.Start = number(w[1])
	case 8:
		e := module.Elem{At: address(w[1])}
		for _, f := range strings.Fields(w[2]) {
			e.Funcs = append(e.Funcs, number(f))
		}
		m.Elems = append(m.Elems, e)
	case 9:
		b, _ := hex.DecodeString(w[3])
		m.Datas = append(m.Datas, module.Data{Mem: number(w[1]), At: address(w[2]), Bytes: b})
	}
}

// body makes a body of lines, from one on, and moves behind it; it stands at a line that can't be.
func (x *model) body(l []string, at *int) {
	var b code.Body
	for ; ; *at++ {
		if _, n, e := code.Spans(b.L); e == api.OK {
			break
		} else if n < len(b.L) {
			*at--
			panic(api.ErrForm)
		}
		if *at == len(l) {
			*at--
			panic(api.ErrForm)
		}
		if w := x.shapes[10].FindStringSubmatch(l[*at]); w != nil && b.L == nil && b.Locals == nil {
			for _, s := range strings.Fields(w[1]) {
				b.Locals = append(b.Locals, local(s))
			}
			continue
		}
		i, e := instr.Parse(l[*at])
		form(e == api.OK)
		b.L = append(b.L, i)
	}
	x.m.Funcs[len(x.m.Funcs)-1].Body = b
}

// slowly reads lines; no body may be too deep.
func slowly(shapes []*regexp.Regexp, l []string) (m *module.Module, place int, err api.Errno) {
	at := 0
	defer func() {
		if e, ok := recover().(api.Errno); ok {
			m, place, err = nil, at+1, e
		}
	}()
	x := model{shapes: shapes, m: module.Empty()}
	for at < len(l) {
		x.line(l[at])
		at++
		if x.latest == 2 {
			x.body(l, &at)
		}
	}
	if _, e := x.m.Fit(); e != api.OK {
		return nil, 0, e
	}
	for _, f := range x.m.Funcs {
		if _, e := f.Body.Encode(); e != api.OK {
			return nil, 0, e
		}
	}
	return x.m, 0, api.OK
}

// TestParseNear is of P15.1: all texts that are one byte from a module's.
func TestParseNear(t *testing.T) {
	all := ended(flat(groups()))
	known := shapes()
	fine, kinds := 0, map[api.Errno]int{}
	try := func(s string) {
		t.Helper()
		l := strings.Split(s, "\n")
		last := len(l) - 1
		var want *module.Module
		place, err := last+1, api.ErrForm
		if l[last] == "" {
			want, place, err = slowly(known, l[:last])
		}
		m, at, e := text.Parse(s)
		if !same(m, want) || at != place || e != err {
			t.Fatalf("Parse of %q: %+v, %d, %d, not %+v, %d, %d", s, m, at, e, want, place, err)
		}
		kinds[e]++
		if m != nil {
			fine++
			again(t, m, s)
		}
	}
	for i := range len(all) {
		try(all[:i])
		try(all[:i] + all[i+1:])
		for _, c := range "\n -+0129aefix.,()>_\x00\xff" {
			s := string([]byte{byte(c)})
			try(all[:i] + s + all[i:])
			try(all[:i] + s + all[i+1:])
		}
	}
	if fine < 100 || kinds[api.ErrForm] < 1000 || kinds[api.ErrRange] < 20 || kinds[api.ErrName] < 5 {
		t.Errorf("but %d are modules, %v", fine, kinds)
	}
}

// again writes what was read.
func again(t *testing.T, m *module.Module, from string) {
	t.Helper()
	s, e := text.Text(m)
	if s != from || e != api.OK {
		t.Fatalf("Text of what was read of %q: %q, %d", from, s, e)
	}
	b, e := decode.Encode(m)
	if x, _, e2 := decode.Bytes(b); e != api.OK || e2 != api.OK || !same(x, m) {
		t.Fatalf("%q as bytes: %x, %d, %d", from, b, e, e2)
	}
}

// pieces are lines of each part, and of bodies; the first two of each are fine, as far as numbers go.
func pieces() [][]string {
	return [][]string{
		{"sig ()->()", "sig (i32)->(i64,i32)", "sig (i32)->(i64,i32) ", "sig ()"},
		{"import a b 0", "import sig import 1", "import  b 0", "import a b 00", "import a b 7"},
		{"func 0", "func 1", "func 2", "func 9", "func 00", "func", "func -1"},
		{"table 2", "table 0", "table -1", "table 1001"},
		{"memory 0 -", "memory 1 1 i64", "memory 2 1", "memory 1", "memory 99999 -"},
		{"global i32 var -5", "global i64 const 9999999999", "global i32 const 9999999999", "global i32 0", "global i64 var -0"},
		{"export a func 0", "export b func 1", "export a memory 0", "export t table 0", "export x y 0", "export  global 0", "export z global 1"},
		{"start 0", "start 1", "start 01", "start"},
		{"elem 0", "elem 1 0 1", "elem 1 0 9", "elem 0 ", "elem 4294967296"},
		{"data 0 0 x", "data 0 65536 xff00", "data 1 18446744073709551615 x7f", "data 0 0 x0", "data 0 0", "data 0 18446744073709551616 x"},
		{"nop", "i32.const -7", "block", "loop i32", "if", "else", "end", "end", "end", "br_table 0 1", "locals i32", "locals i64 i32", "locals", "i32.load 0 4 2", "foo", "", "i32.const 00"},
	}
}

// TestReadRows is of P15.1 and P15.2: rows of lines, held against their shapes.
func TestReadRows(t *testing.T) {
	seed := uint64(11)
	next := func(n int) int {
		seed = seed*6364136223846793005 + 1442695040888963407
		return int(seed >> 33 % uint64(n))
	}
	all, known := pieces(), shapes()
	fine, kinds := 0, map[api.Errno]int{}
	for range 30000 {
		var l []string
		pick := func(part int) {
			most := 2
			if next(40) == 0 {
				most = len(all[part])
			}
			l = append(l, all[part][next(most)])
		}
		for part := range 10 {
			if next(60) == 0 {
				part = next(10)
			}
			n := 2
			switch {
			case part == 3 || part == 7:
				n = 1
			case part > 5 || part == 1:
				n = next(3)
			}
			for range n {
				pick(part)
				if part == 2 {
					l = append(l, row(next, all[10])...)
				}
			}
		}
		want, place, err := slowly(known, l)
		m, at, e := text.Read(l)
		if !same(m, want) || at != place || e != err {
			t.Fatalf("Read of %q: %+v, %d, %d, not %+v, %d, %d", l, m, at, e, want, place, err)
		}
		kinds[e]++
		if m != nil {
			fine++
			again(t, m, ended(l))
		}
	}
	if fine < 1000 || kinds[api.ErrForm] < 2000 || kinds[api.ErrRange] < 500 || kinds[api.ErrType] < 100 || kinds[api.ErrName] < 20 {
		t.Errorf("but %d are modules, %v", fine, kinds)
	}
}

// row is lines of a body, mostly of one that is closed.
func row(next func(int) int, all []string) []string {
	var l []string
	if next(3) == 0 {
		l = append(l, all[10+next(2)])
	}
	open := []bool{false}
	for len(open) > 0 {
		last := len(open) - 1
		s := all[next(8)]
		if next(60) == 0 {
			s = all[next(len(all))]
		}
		if len(l) > 12 || s == "else" && !open[last] && next(30) > 0 {
			s = "end"
		}
		l = append(l, s)
		switch s {
		case "block", "loop i32", "if":
			open = append(open, s == "if")
		case "else":
			open[last] = false
		case "end":
			open = open[:last]
		}
	}
	if next(100) == 0 {
		l = l[:len(l)-1]
	}
	return l
}
