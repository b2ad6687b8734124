package check_test

import (
	"slices"
	"strconv"
	"strings"
	"testing"

	"grommet/api"
	"grommet/op"
)

// ops are what instructions take and give, one row a line; x stands for both types, a for addresses.
const ops = `
x.eqz: x -> i32
x.eq x.ne x.lt_s x.lt_u x.gt_s x.gt_u x.le_s x.le_u x.ge_s x.ge_u: x x -> i32
x.clz x.ctz x.popcnt x.extend8_s x.extend16_s: x -> x
x.add x.sub x.mul x.div_s x.div_u x.rem_s x.rem_u x.and x.or x.xor x.shl x.shr_s x.shr_u x.rotl x.rotr: x x -> x
i64.extend32_s: i64 -> i64
i32.wrap_i64: i64 -> i32
i64.extend_i32_s i64.extend_i32_u: i32 -> i64
x.const: -> x
x.load x.load8_s x.load8_u x.load16_s x.load16_u: a -> x
i64.load32_s i64.load32_u: a -> i64
x.store x.store8 x.store16: a x ->
i64.store32: a i64 ->
memory.size: -> a
memory.grow: a -> a
memory.fill: a i32 a ->
nop: ->`

// rules are what ops tells, by names; of x both types were laid in.
func rules() map[string][2]string {
	all := map[string][2]string{}
	for line := range strings.SplitSeq(strings.TrimSpace(ops), "\n") {
		names, shape, _ := strings.Cut(line, ":")
		for _, x := range []string{"i32", "i64"} {
			takes, gives, _ := strings.Cut(strings.ReplaceAll(shape, "x", x), "->")
			for name := range strings.FieldsSeq(names) {
				if n := strings.TrimPrefix(name, "x."); n != name {
					name = x + "." + n
				}
				all[name] = [2]string{takes, gives}
			}
		}
	}
	return all
}

// TestOps is of P16.1: what each instruction takes and gives that isn't told by its module, or its blocks.
func TestOps(t *testing.T) {
	all := rules()
	others := strings.Fields("unreachable block loop if else end br br_if br_table return call call_indirect drop select local.get local.set local.tee global.get global.set memory.copy")
	n := 0
	for _, x := range op.All() {
		rule, known := all[x.Name]
		if known == slices.Contains(others, x.Name) {
			t.Fatalf("%s is looked at nowhere, or twice", x.Name)
		}
		if !known {
			continue
		}
		n++
		for mem, address := range []string{"i32", "i64", "i32", "i64"} {
			takes := strings.Fields(strings.ReplaceAll(rule[0], "a", address))
			gives := strings.Fields(strings.ReplaceAll(rule[1], "a", address))
			shaped(t, x.Name+numbers(x.Form, mem), takes, gives)
		}
	}
	if n != len(all) {
		t.Errorf("%d rules, but %d ops", len(all), n)
	}
}

// numbers are those of an instruction of a form.
func numbers(form, mem int) string {
	m := strconv.Itoa(mem)
	switch form {
	case op.Mem:
		return " " + m + " 0 0"
	case op.One:
		return " " + m
	case op.Const:
		return " 7"
	}
	return ""
}

// shaped holds what an instruction takes, and gives.
func shaped(t *testing.T, text string, takes, gives []string) {
	t.Helper()
	n := len(takes)
	heights := func(below int) []int {
		var l []int
		for i := range below + n + 1 {
			l = append(l, i)
		}
		return append(l, below+len(gives))
	}
	fine(t, told("", gives), "", body(takes, text), heights(0)...)
	for _, x := range []string{"i32", "i64"} {
		more := slices.Concat([]string{x}, takes)
		fine(t, told(x, gives), "", body(more, text), heights(1)...)
		wrong(t, told("", gives), "", body(more, text), n+2, api.ErrType)
	}
	if n > 0 {
		wrong(t, told("", gives), "", body(takes[1:], text), n-1, api.ErrType)
		wrong(t, told("", gives), "", body(takes[:n-1], text), n-1, api.ErrType)
	}
	for i := range takes {
		l := slices.Clone(takes)
		l[i] = other(l[i])
		wrong(t, told("", gives), "", body(l, text), n, api.ErrType)
		// Within a block nothing that stands below it may be taken.
		if i > 0 {
			wrong(t, "()->()", "", consts(takes[:i])+"block; "+body(takes[i:], text)+"; unreachable; end", n+1, api.ErrType)
		}
	}
	for i := range gives {
		l := slices.Clone(gives)
		l[i] = other(l[i])
		wrong(t, told("", l), "", body(takes, text), n+1, api.ErrType)
		wrong(t, told("", gives[1:]), "", body(takes, text), n+1, api.ErrType)
	}
	// What isn't there behind unreachable is taken from nothing, and what is must be of its type.
	for i := range takes {
		dead := "unreachable; " + body(takes[i:], text)
		l := []int{0}
		for k := range n - i + 1 {
			l = append(l, k)
		}
		fine(t, told("", gives), "", dead, append(l, len(gives))...)
		few := slices.Clone(takes[i:])
		few[0] = other(few[0])
		wrong(t, told("", gives), "", "unreachable; "+body(few, text), 1+n-i, api.ErrType)
	}
	fine(t, told("", gives), "", "unreachable; "+text+"; end", 0, 0, len(gives))
}

// body is consts of types, an instruction, and an end.
func body(l []string, text string) string {
	return consts(l) + text + "; end"
}

// consts are those of types.
func consts(l []string) string {
	var s strings.Builder
	for _, x := range l {
		s.WriteString(x + ".const 1; ")
	}
	return s.String()
}

// told is the text of a signature that gives a type, if there is one, and others.
func told(first string, l []string) string {
	if first != "" {
		l = slices.Concat([]string{first}, l)
	}
	return "()->(" + strings.Join(l, ",") + ")"
}

// other is the type that this one isn't.
func other(x string) string {
	if x == "i32" {
		return "i64"
	}
	return "i32"
}

// TestCopy is of P16.1: memory.copy takes an address of its first memory, one of its second one, and an i64, if both are.
func TestCopy(t *testing.T) {
	for _, c := range []struct{ text, takes string }{
		{"memory.copy 0 0", "i32 i32 i32"},
		{"memory.copy 0 2", "i32 i32 i32"},
		{"memory.copy 2 0", "i32 i32 i32"},
		{"memory.copy 0 1", "i32 i64 i32"},
		{"memory.copy 1 0", "i64 i32 i32"},
		{"memory.copy 2 3", "i32 i64 i32"},
		{"memory.copy 3 2", "i64 i32 i32"},
		{"memory.copy 1 1", "i64 i64 i64"},
		{"memory.copy 1 3", "i64 i64 i64"},
		{"memory.copy 3 1", "i64 i64 i64"},
	} {
		shaped(t, c.text, strings.Fields(c.takes), nil)
	}
}

// TestCalls is of P16.1: a call is as its function's signature tells, imports first; a call_indirect takes an i32 last.
func TestCalls(t *testing.T) {
	for _, c := range []struct{ text, takes, gives string }{
		{"call 0", "i32 i64", "i64 i32"},
		{"call 1", "i64", ""},
		{"call 2", "", "i32"},
		{"call 4", "", "i64 i32 i64"},
		{"call_indirect 0 0", "i32", ""},
		{"call_indirect 1 0", "i32 i64 i32", "i64 i32"},
		{"call_indirect 2 0", "i32", "i32"},
		{"call_indirect 3 0", "i64 i32", ""},
		{"call_indirect 4 0", "i32 i32 i32 i32 i32", "i64 i64"},
		{"call_indirect 5 0", "i64 i32 i32", "i64"},
		{"call_indirect 6 0", "i32", "i64 i32 i64"},
	} {
		shaped(t, c.text, strings.Fields(c.takes), strings.Fields(c.gives))
	}
	fine(t, "(i32,i64)->(i64,i32)", "", "local.get 0; local.get 1; call 3; end", 0, 1, 2, 2)
	fine(t, "(i64)->(i32,i32)", "", "local.get 0; i32.const 9; call_indirect 7 0; end", 0, 1, 2, 2)
	wrong(t, "(i64)->(i32,i32)", "", "local.get 0; call_indirect 7 0; end", 1, api.ErrType)
	wrong(t, "(i32,i64)->(i64,i32)", "", "local.get 1; local.get 0; call 3; end", 2, api.ErrType)
}

// TestVariables is of P16.1: locals, parameters first, and globals are taken and given by their type.
func TestVariables(t *testing.T) {
	for i, x := range strings.Fields("i32 i64 i64 i32 i32") {
		for _, y := range []string{"i32", "i64"} {
			n := strconv.Itoa(i)
			local := func(gives, body string, place int, heights ...int) {
				t.Helper()
				if s := "(i32,i64)->(" + gives + ")"; x == y {
					fine(t, s, "i64 i32 i32", body, heights...)
				} else {
					wrong(t, s, "i64 i32 i32", body, place, api.ErrType)
				}
			}
			local(y, "local.get "+n+"; end", 1, 0, 1)
			local("", y+".const 1; local.set "+n+"; end", 1, 0, 1, 0)
			local(y, y+".const 1; local.tee "+n+"; end", 1, 0, 1, 1)
			local(y, "unreachable; local.tee "+n+"; end", 2, 0, 0, 1)
			local("", "unreachable; "+y+".const 1; local.set "+n+"; end", 2, 0, 0, 1, 0)
			wrong(t, "(i32,i64)->()", "i64 i32 i32", "local.set "+n+"; end", 0, api.ErrType)
			wrong(t, "(i32,i64)->("+x+")", "i64 i32 i32", "local.tee "+n+"; end", 0, api.ErrType)
			fine(t, "(i32,i64)->()", "i64 i32 i32", "unreachable; local.set "+n+"; end", 0, 0, 0)
		}
	}
	for i, x := range strings.Fields("i32 i64 i32 i64 i64") {
		n := strconv.Itoa(i)
		fine(t, "()->("+x+")", "", "global.get "+n+"; end", 0, 1)
		wrong(t, "()->("+other(x)+")", "", "global.get "+n+"; end", 1, api.ErrType)
		set := "; global.set " + n + "; end"
		// The globals 0 and 3 may not be changed.
		if i != 0 && i != 3 {
			fine(t, "()->()", "", x+".const 1"+set, 0, 1, 0)
			fine(t, "()->()", "", "unreachable"+set, 0, 0, 0)
		} else {
			wrong(t, "()->()", "", x+".const 1"+set, 1, api.ErrType)
			wrong(t, "()->()", "", "unreachable"+set, 1, api.ErrType)
		}
		wrong(t, "()->()", "", other(x)+".const 1"+set, 1, api.ErrType)
		wrong(t, "()->()", "", "nop"+set, 1, api.ErrType)
	}
}

// TestDrop is of P16.1: drop takes any type, but there must be one.
func TestDrop(t *testing.T) {
	fine(t, "()->()", "", "i32.const 1; drop; end", 0, 1, 0)
	fine(t, "()->()", "", "i64.const 1; drop; end", 0, 1, 0)
	fine(t, "()->(i32)", "", "i32.const 1; i64.const 1; drop; end", 0, 1, 2, 1)
	fine(t, "()->()", "", "unreachable; drop; drop; end", 0, 0, 0, 0)
	fine(t, "()->()", "", "unreachable; i64.const 1; drop; drop; end", 0, 0, 1, 0, 0)
	wrong(t, "()->()", "", "drop; end", 0, api.ErrType)
	wrong(t, "()->()", "", "i32.const 1; block; drop; end; drop; end", 2, api.ErrType)
	wrong(t, "()->()", "", "unreachable; block; drop; end; end", 2, api.ErrType)
}

// TestSelect is of P16.1: select takes an i32 and two alike, and gives one of these, or any.
func TestSelect(t *testing.T) {
	for _, x := range []string{"i32", "i64"} {
		y := other(x)
		fine(t, "()->("+x+")", "", body([]string{x, x, "i32"}, "select"), 0, 1, 2, 3, 1)
		fine(t, "()->("+y+","+x+")", "", body([]string{y, x, x, "i32"}, "select"), 0, 1, 2, 3, 4, 2)
		wrong(t, "()->("+y+")", "", body([]string{x, x, "i32"}, "select"), 4, api.ErrType)
		wrong(t, "()->("+x+")", "", body([]string{x, y, "i32"}, "select"), 3, api.ErrType)
		wrong(t, "()->("+y+")", "", body([]string{x, y, "i32"}, "select"), 3, api.ErrType)
		wrong(t, "()->("+x+")", "", body([]string{x, x, "i64"}, "select"), 3, api.ErrType)
		wrong(t, "()->("+x+")", "", body([]string{x, "i32"}, "select"), 2, api.ErrType)
		wrong(t, "()->("+x+")", "", body([]string{"i32"}, "select"), 1, api.ErrType)
		wrong(t, "()->("+x+")", "", "select; end", 0, api.ErrType)
		// Of two, one is taken from nothing: it is as the other one.
		fine(t, "()->("+x+")", "", "unreachable; "+body([]string{x, "i32"}, "select"), 0, 0, 1, 2, 1)
		wrong(t, "()->("+y+")", "", "unreachable; "+body([]string{x, "i32"}, "select"), 4, api.ErrType)
		wrong(t, "()->("+x+")", "", "unreachable; "+body([]string{x, "i64"}, "select"), 3, api.ErrType)
		wrong(t, "()->("+x+")", "", "unreachable; "+body([]string{y, x, "i32"}, "select"), 4, api.ErrType)
		// Both are: what it gives may be any, and is there.
		fine(t, "()->("+x+")", "", "unreachable; i32.const 1; select; end", 0, 0, 1, 1)
		fine(t, "()->("+x+")", "", "unreachable; select; end", 0, 0, 1)
		fine(t, "()->("+x+")", "", "unreachable; select; i32.const 1; select; end", 0, 0, 1, 2, 1)
		fine(t, "()->("+x+")", "", "unreachable; select; "+body([]string{x, "i32"}, "select"), 0, 0, 1, 2, 3, 1)
		wrong(t, "()->("+y+")", "", "unreachable; select; "+body([]string{x, "i32"}, "select"), 5, api.ErrType)
		fine(t, "()->("+x+")", "", "unreachable; select; "+x+".eqz; drop; end", 0, 0, 1, 1, 0)
		fine(t, "()->("+x+","+y+")", "", "unreachable; select; select; select; i32.const 1; select; end", 0, 0, 1, 1, 1, 2, 1)
	}
	fine(t, "()->()", "", "unreachable; select; select; drop; end", 0, 0, 1, 1, 0)
	fine(t, "()->()", "", "unreachable; i32.const 1; select; i32.const 1; select; drop; end", 0, 0, 1, 1, 2, 1, 0)
	wrong(t, "()->()", "", "unreachable; select; end", 2, api.ErrType)
	wrong(t, "()->()", "", "unreachable; select; i32.const 1; select; end", 4, api.ErrType)
	// A type that was given from nothing may be another one's each time; one of two that is known is known from then on.
	wrong(t, "()->(i64)", "", "unreachable; i32.const 1; i32.const 1; select; i32.const 1; select; end", 6, api.ErrType)
}
