package check_test

import (
	"math"
	"slices"
	"strings"
	"testing"

	"grommet/api"
	"grommet/check"
	"grommet/code"
	"grommet/instr"
	"grommet/module"
	"grommet/op"
)

// stack is one that there may be: a letter for each type, i of i32, l of i64, and whether all that there could be may stand below them.
type stack struct {
	top  string
	deep bool
}

// stacks are all that there may be: a body is well typed, if at each place there is one at least, and the lowest tells how high it is there.
type stacks map[stack]struct{}

// letters are those of types.
func letters(l []api.Type) string {
	var s strings.Builder
	for _, x := range l {
		s.WriteByte(map[api.Type]byte{api.I32: 'i', api.I64: 'l'}[x])
	}
	return s.String()
}

// one is a single stack.
func one(x stack) stacks {
	return stacks{x: {}}
}

// lowest is how high the lowest one is.
func (s stacks) lowest() int {
	n := math.MaxInt
	for x := range s {
		n = min(n, len(x.top))
	}
	return n
}

// pass is the stacks that are left of those of which types can be taken, with others on them.
func (s stacks) pass(takes, gives string) stacks {
	out := stacks{}
	for x := range s {
		if rest, ok := strings.CutSuffix(x.top, takes); ok {
			out[stack{rest + gives, x.deep}] = struct{}{}
		} else if x.deep && strings.HasSuffix(takes, x.top) {
			out[stack{gives, true}] = struct{}{}
		}
	}
	return out
}

// or is the stacks of both.
func (s stacks) or(t stacks) stacks {
	for x := range t {
		s[x] = struct{}{}
	}
	return s
}

// model goes through a body, block within block.
type model struct {
	m       *module.Module
	results string
	locals  string
	l       []instr.Instr
	at      int
	heights []int
	rules   map[string][2]string
}

// bad is an error at the place where the model stands.
type bad struct {
	at  int
	err api.Errno
}

// need panics, unless something holds.
func (x *model) need(holds bool, e api.Errno) {
	if !holds {
		panic(bad{x.at, e})
	}
}

// slowly is what must be told of the function that is looked at.
func slowly(m *module.Module, rules map[string][2]string) (heights []int, place int, err api.Errno) {
	defer func() {
		if b, ok := recover().(bad); ok {
			heights, place, err = nil, b.at, b.err
		}
	}()
	f := m.Funcs[looked]
	s := m.Sigs[f.Sig]
	x := &model{m: m, results: letters(s.Results), locals: letters(s.Params) + letters(f.Body.Locals), l: f.Body.L, rules: rules}
	last := x.row(0, []string{x.results})
	x.ends(last, x.results)
	return x.heights, 0, api.OK
}

// row goes from a block's beginning to its end, or else, and answers the stacks there; labels' types are told from the function's own on.
func (x *model) row(below int, labels []string) stacks {
	now := one(stack{})
	for {
		x.heights = append(x.heights, below+now.lowest())
		i := x.l[x.at]
		if i.Code == 11 || i.Code == 5 {
			return now
		}
		if i.Code >= 2 && i.Code <= 4 {
			now = x.block(i, now, below, labels)
		} else {
			now = x.step(i, now, labels)
			x.need(len(now) > 0, api.ErrType)
		}
		x.at++
	}
}

// ends holds that a block's results may be all there is.
func (x *model) ends(s stacks, results string) {
	s = s.pass(results, "")
	_, all := s[stack{}]
	_, open := s[stack{deep: true}]
	x.need(all || open, api.ErrType)
}

// block goes through a block, up to its end.
func (x *model) block(i instr.Instr, now stacks, below int, labels []string) stacks {
	if i.Code == 4 {
		now = now.pass("i", "")
		x.need(len(now) > 0, api.ErrType)
	}
	results := map[uint64]string{64: "", 127: "i", 126: "l"}[i.A]
	label := results
	if i.Code == 3 {
		label = ""
	}
	labels = append(slices.Clone(labels), label)
	low := below + now.lowest()
	x.at++
	last := x.row(low, labels)
	if x.l[x.at].Code == 5 {
		x.ends(last, results)
		x.at++
		last = x.row(low, labels)
	} else if i.Code == 4 {
		x.need(results == "", api.ErrType)
	}
	x.ends(last, results)
	return now.pass("", results)
}

// label is the types of a label.
func (x *model) label(labels []string, n uint64) string {
	x.need(n < uint64(len(labels)), api.ErrRange)
	return labels[uint64(len(labels))-1-n]
}

// leave is any stack, if there is one of these.
func (x *model) leave(s stacks) stacks {
	if len(s) == 0 {
		return nil
	}
	return one(stack{deep: true})
}

// step goes over an instruction that is no block.
func (x *model) step(i instr.Instr, now stacks, labels []string) stacks {
	info, _ := op.Find(i.Code)
	switch info.Name {
	case "unreachable":
		return x.leave(now)
	case "br":
		return x.leave(now.pass(x.label(labels, i.A), ""))
	case "br_if":
		l := x.label(labels, i.A)
		return now.pass(l+"i", l)
	case "br_table":
		l := x.label(labels, i.A)
		for _, n := range i.L {
			x.label(labels, n)
		}
		for _, n := range i.L {
			x.need(x.label(labels, n) == l, api.ErrType)
		}
		return x.leave(now.pass(l+"i", ""))
	case "return":
		return x.leave(now.pass(x.results, ""))
	case "drop":
		return now.pass("i", "").or(now.pass("l", ""))
	case "select":
		return now.pass("iii", "i").or(now.pass("lli", "l"))
	}
	takes, gives := x.shape(i, info)
	return now.pass(takes, gives)
}

// shape is what an instruction takes and gives.
func (x *model) shape(i instr.Instr, info op.Info) (string, string) {
	m := x.m
	switch info.Name {
	case "call":
		x.need(i.A < uint64(m.Count()), api.ErrRange)
		s, _ := m.Sig(int(i.A))
		return letters(s.Params), letters(s.Results)
	case "call_indirect":
		x.need(i.A < uint64(len(m.Sigs)) && i.B == 0 && m.Table >= 0, api.ErrRange)
		return letters(m.Sigs[i.A].Params) + "i", letters(m.Sigs[i.A].Results)
	case "local.get", "local.set", "local.tee":
		x.need(i.A < uint64(len(x.locals)), api.ErrRange)
		t := x.locals[i.A : i.A+1]
		shapes := map[int][2]string{32: {"", t}, 33: {t, ""}, 34: {t, t}}[i.Code]
		return shapes[0], shapes[1]
	case "global.get", "global.set":
		x.need(i.A < uint64(len(m.Globals)), api.ErrRange)
		t := letters([]api.Type{m.Globals[i.A].Type})
		if i.Code == 35 {
			return "", t
		}
		x.need(m.Globals[i.A].Mutable, api.ErrType)
		return t, ""
	case "memory.copy":
		a, b := x.address(i.A), x.address(i.B)
		n := "i"
		if a+b == "ll" {
			n = "l"
		}
		return a + b + n, ""
	}
	return x.ruled(i, info)
}

// address is an address of a memory.
func (x *model) address(mem uint64) string {
	x.need(mem < uint64(len(x.m.Mems)), api.ErrRange)
	if x.m.Mems[mem].Wide {
		return "l"
	}
	return "i"
}

// ruled is what one of ops takes and gives.
func (x *model) ruled(i instr.Instr, info op.Info) (string, string) {
	a := ""
	if info.Form == op.Mem || info.Form == op.One {
		a = x.address(i.A)
	}
	if info.Form == op.Mem {
		x.need(a == "l" || i.B < 1<<32, api.ErrRange)
		width, _ := op.Width(i.Code)
		x.need(math.Pow(2, float64(i.Align)) <= float64(width), api.ErrType)
	}
	rule := x.rules[info.Name]
	short := strings.NewReplacer("i32", "i", "i64", "l", "a", a, " ", "")
	return short.Replace(rule[0]), short.Replace(rule[1])
}

// agree holds what is told of the function that is looked at against the model, and answers the error.
func agree(t *testing.T, m *module.Module, rules map[string][2]string) api.Errno {
	t.Helper()
	heights, place, err := slowly(m, rules)
	at, e := check.Func(m, looked)
	l, e2 := check.Heights(m, looked)
	peak := check.Peak(m, looked)
	if at != place || e != err || e2 != err || !slices.Equal(l, heights) || peak != slices.Max(append(heights, 0)) {
		b := m.Funcs[looked].Body
		t.Fatalf("%s, %s: %d, %d; %v, %d, %d; not %d, %d, %v", m.Sigs[7].Print(), strings.Join(code.Print(b), "; "), at, e, l, e2, peak, place, err, heights)
	}
	return e
}

// closed is all bodies of up to so many instructions of these, ahead of the last end.
func closed(pieces []instr.Instr, most int, do func([]instr.Instr)) {
	end := instr.Instr{Code: 11}
	plus := func(l []instr.Instr, x instr.Instr) []instr.Instr { return append(slices.Clone(l), x) }
	// Of each block that has no end yet it is known whether an else may stand there.
	var grow func(l []instr.Instr, open []bool)
	grow = func(l []instr.Instr, open []bool) {
		last := len(open) - 1
		if last < 0 {
			do(plus(l, end))
		} else {
			grow(plus(l, end), open[:last])
		}
		if len(l)+len(open) >= most {
			return
		}
		for _, x := range pieces {
			switch {
			case x.Code >= 2 && x.Code <= 4:
				grow(plus(l, x), append(slices.Clone(open), x.Code == 4))
			case x.Code != 5:
				grow(plus(l, x), open)
			case last >= 0 && open[last]:
				grow(plus(l, x), append(slices.Clone(open[:last]), false))
			}
		}
	}
	grow(nil, nil)
}

// TestShort is of P16.1 and P16.2: all short bodies of some instructions.
func TestShort(t *testing.T) {
	known := rules()
	for _, c := range []struct {
		sig, pieces string
		most        int
	}{
		{"()->()", "unreachable; drop; select; i32.const 1; i64.const 1; block; block i32; br 0; br_if 0; br 1", 4},
		{"()->(i32)", "unreachable; drop; select; i32.const 1; i64.const 1; i64.eqz; block i64; loop i32; br 0; br_if 1; return", 4},
		{"()->(i64,i32)", "unreachable; select; i32.const 1; i64.const 1; br_if 0; i64.extend_i32_u; br_table 0; local.tee 0; local.set 1; call 0", 4},
		{"()->(i32)", "unreachable; i32.const 1; if; if i32; else; br 0; drop", 6},
		{"()->()", "unreachable; i64.const 1; i32.const 1; if i64; else; drop; br_table 0 1", 6},
		{"()->(i64)", "unreachable; select; local.get 0; drop; i64.eqz; i32.wrap_i64", 5},
	} {
		m := with(c.sig, "i64 i32", "end")
		kinds := map[api.Errno]int{}
		closed(row(c.pieces), c.most, func(l []instr.Instr) {
			m.Funcs[looked].Body.L = l
			kinds[agree(t, m, known)]++
		})
		if kinds[api.OK] < 300 || kinds[api.ErrType] < 2000 {
			t.Errorf("of bodies of %s but %v", c.pieces, kinds)
		}
	}
}

// pieces are instructions of all kinds, many of which stand in other bodies well.
const pieces = `
nop; unreachable; block; block i32; block i64; loop; loop i32; if; if i32; if i64; else; end; br 0; br 1; br 2; br_if 0; br_if 1; br_if 2
br_table 0; br_table 0 1; br_table 1 1; br_table 0 1 2; br_table 2 0; return; call 0; call 1; call 2; call 4; call 5; call_indirect 4 0
call_indirect 2 0; call_indirect 3 0; call_indirect 8 0; call_indirect 0 1; drop; drop; drop; select; select; local.get 0; local.get 1
local.get 2; local.get 4; local.set 0; local.set 1; local.set 3; local.tee 0; local.tee 1; local.tee 9; global.get 0; global.get 1
global.get 5; global.set 0; global.set 1; global.set 2; global.set 3; i32.load 0 0 2; i32.load 1 4294967296 0; i64.load 2 4294967296 0
i64.load32_s 3 7 3; i64.load8_u 0 7 0; i32.load 4 0 0; i32.store 0 0 0; i64.store 1 0 3; i64.store16 1 0 2; memory.size 0; memory.size 1
memory.grow 2; memory.grow 3; memory.grow 5; memory.fill 0; memory.fill 1; memory.copy 0 0; memory.copy 0 1; memory.copy 1 0; memory.copy 1 3
memory.copy 0 4; i32.const 1; i32.const 2; i64.const 1; i64.const 2; i32.eqz; i64.eqz; i32.lt_u; i64.ge_s; i32.clz; i64.popcnt; i32.add; i32.sub
i64.mul; i64.rotr; i32.wrap_i64; i64.extend_i32_s; i64.extend_i32_u; i32.extend8_s; i64.extend32_s`

// dice counts on, and is the same each time.
type dice uint64

func (d *dice) next(n int) int {
	*d = *d*6364136223846793005 + 1442695040888963407
	return int(uint64(*d) >> 33 % uint64(n))
}

// grown is a row of so many instructions of pieces, most of which are well typed where they stand; blocks are ended, some of them behind unreachable.
func (d *dice) grown(m *module.Module, all []instr.Instr, n int) []instr.Instr {
	f := &m.Funcs[looked].Body
	var l []instr.Instr
	var open []bool
	for range 4 * n {
		if len(l) >= n {
			break
		}
		x := all[d.next(len(all))]
		last := len(open) - 1
		if last < 0 && x.Code == 11 || x.Code == 5 && (last < 0 || !open[last]) {
			continue
		}
		now := opened(slices.Clone(open), x.Code)
		f.L = append(slices.Clip(l), x)
		f.L = append(f.L, ended(now)...)
		if at, e := check.Func(m, looked); e == api.OK || at > len(l) || d.next(40) == 0 {
			l, open = append(l, x), now
		}
	}
	if d.next(8) > 0 {
		return append(l, ended(open)...)
	}
	for range len(open) + 1 {
		l = append(l, instr.Instr{Code: 11})
	}
	return l
}

// opened is of each block that has no end yet whether an else may stand there, behind an instruction.
func opened(open []bool, code int) []bool {
	last := len(open) - 1
	switch code {
	case 2, 3, 4:
		return append(open, code == 4)
	case 5:
		open[last] = false
	case 11:
		return open[:last]
	}
	return open
}

// ended is the ends of blocks, and of a body, each behind unreachable, and behind an else, if there may be one.
func ended(open []bool) []instr.Instr {
	l := row("unreachable")
	for i := len(open) - 1; i >= 0; i-- {
		if open[i] {
			l = append(l, row("else; unreachable")...)
		}
		l = append(l, row("end; unreachable")...)
	}
	return append(l, row("end")...)
}

// near is a body with something changed at a place.
func (d *dice) near(l, all []instr.Instr, at int) []instr.Instr {
	x := all[d.next(len(all))]
	switch d.next(4) {
	case 0:
		return slices.Delete(slices.Clone(l), at, at+1)
	case 1:
		return slices.Insert(slices.Clone(l), at, x)
	case 2:
		return slices.Insert(slices.Clone(l), at, l[at])
	}
	return slices.Replace(slices.Clone(l), at, at+1, x)
}

// TestRows is of P16.1 and P16.2: rows of instructions of all kinds, and what is near to them.
func TestRows(t *testing.T) {
	known, d := rules(), dice(7)
	all := row(strings.ReplaceAll(strings.TrimSpace(pieces), "\n", ";"))
	sigs := []string{"()->()", "(i32)->(i32)", "(i64,i32)->(i64)", "(i32,i64)->(i64,i32)", "()->(i32,i32,i64)"}
	kinds, other := map[api.Errno]int{}, map[api.Errno]int{}
	for range 2500 {
		m := with(sigs[d.next(len(sigs))], "i32 i64", "end")
		l := d.grown(m, all, 2+d.next(20))
		m.Funcs[looked].Body.L = l
		e := agree(t, m, known)
		if kinds[e]++; e == api.OK {
			stays(t, m, &d)
		}
		for range 10 {
			m.Funcs[looked].Body.L = d.near(l, all, d.next(len(l)))
			if _, e := m.Funcs[looked].Body.Encode(); e == api.OK {
				other[agree(t, m, known)]++
			}
		}
	}
	if kinds[api.OK] < 500 || kinds[api.ErrType] < 500 || kinds[api.ErrRange] < 100 || other[api.OK] < 2000 || other[api.ErrType] < 2000 || other[api.ErrRange] < 1000 {
		t.Errorf("but %v, and near to them %v", kinds, other)
	}
}

// stays is of P16.3: what is well typed stays so with a nop anywhere, and a local more.
func stays(t *testing.T, m *module.Module, d *dice) {
	t.Helper()
	b := &m.Funcs[looked].Body
	old := *b
	heights, _ := check.Heights(m, looked)
	for at := range old.L {
		b.L = slices.Insert(slices.Clone(old.L), at, instr.Instr{Code: 1})
		l, e := check.Heights(m, looked)
		if want := slices.Insert(slices.Clone(heights), at, heights[at]); e != api.OK || !slices.Equal(l, want) {
			t.Fatalf("%s, with a nop at %d: %v, %d, not %v", strings.Join(code.Print(old), "; "), at, l, e, want)
		}
	}
	*b = old
	b.Locals = append(slices.Clone(old.Locals), list([]string{"i32", "i64"}[d.next(2)])...)
	if l, e := check.Heights(m, looked); e != api.OK || !slices.Equal(l, heights) {
		t.Fatalf("%s, with a local more: %v, %d, not %v", strings.Join(code.Print(old), "; "), l, e, heights)
	}
	*b = old
}
