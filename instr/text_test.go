package instr_test

import (
	"regexp"
	"slices"
	"strconv"
	"strings"
	"testing"

	"grommet/api"
	"grommet/instr"
	"grommet/op"
)

// TestText is of P11.2: the texts of the examples, and back.
func TestText(t *testing.T) {
	for _, x := range examples() {
		if s := x.x.Print(); s != x.text {
			t.Errorf("Print of %v: %q, not %q", x.x, s, x.text)
		}
		if got, e := instr.Parse(x.text); !is(got, x.x) || e != api.OK {
			t.Errorf("Parse of %q: %v, %d, not %v", x.text, got, e, x.x)
		}
	}
}

// asText is what the chapter's words tell of a right instruction's text.
func asText(x instr.Instr) string {
	info, _ := op.Find(x.Code)
	s := info.Name
	ten := func(l ...uint64) {
		for _, n := range l {
			s += " " + strconv.FormatUint(n, 10)
		}
	}
	switch info.Form {
	case op.None:
	case op.Block:
		s += map[uint64]string{64: "", 126: " i64", 127: " i32"}[x.A]
	case op.Labels:
		ten(x.L...)
		ten(x.A)
	case op.Sig, op.Two:
		ten(x.A, x.B)
	case op.Mem:
		ten(x.A, x.B, uint64(x.Align))
	case op.Const:
		n := int64(x.A)
		if x.Code == 65 {
			n = int64(int32(x.A))
		}
		s += " " + strconv.FormatInt(n, 10)
	default:
		ten(x.A)
	}
	return s
}

// TestPrint is of P11.2 and P11.3: texts of right instructions of all ops, and back.
func TestPrint(t *testing.T) {
	for _, x := range rights() {
		s := x.Print()
		if s != asText(x) {
			t.Fatalf("Print of %v: %q, not %q", x, s, asText(x))
		}
		if got, e := instr.Parse(s); !is(got, x) || e != api.OK {
			t.Fatalf("Parse of %q: %v, %d", s, got, e)
		}
	}
}

const (
	number  = ` (0|[1-9][0-9]*)`
	signing = ` (0|-?[1-9][0-9]*)`
)

var shapes = [...]string{op.None: ``, op.Block: `( i32| i64)?`, op.Label: number, op.Labels: `(` + number + `){1,101}`, op.Func: number, op.Sig: number + number, op.Local: number, op.Global: number, op.Mem: number + number + number, op.One: number, op.Two: number + number, op.Const: signing}

// texts tell by shapes, and by how great numbers are, whether a text is an instruction's.
type texts map[string]*regexp.Regexp

func newTexts() texts {
	m := texts{}
	for _, info := range op.All() {
		m[info.Name] = regexp.MustCompile(`\A` + regexp.QuoteMeta(info.Name) + shapes[info.Form] + `\z`)
	}
	return m
}

func (m texts) one(s string) bool {
	words := strings.Split(s, " ")
	shape, ok := m[words[0]]
	if !ok || !shape.MatchString(s) {
		return false
	}
	info, _ := op.Named(words[0])
	for i, w := range words[1:] {
		bits := 32
		if info.Form == op.Mem && i == 1 {
			bits = 64
		}
		var err error
		switch info.Form {
		case op.Block:
		case op.Const:
			_, err = strconv.ParseInt(w, 10, 32*(info.Code-64))
		default:
			var n uint64
			n, err = strconv.ParseUint(w, 10, bits)
			if info.Form == op.Mem && i == 2 && n > 31 {
				return false
			}
		}
		if err != nil {
			return false
		}
	}
	return true
}

// parses holds Parse against whether this is a text.
func (m texts) parses(t *testing.T, s string) {
	t.Helper()
	x, e := instr.Parse(s)
	if m.one(s) {
		if e != api.OK || !x.Right() || asText(x) != s {
			t.Errorf("Parse of %q: %v, %d", s, x, e)
		}
	} else if e != api.ErrForm || !zero(x) {
		t.Errorf("Parse of %.200q: %v, %d", s, x, e)
	}
}

// TestParseWrong is of P11.2: texts that are nearly one's.
func TestParseWrong(t *testing.T) {
	m := newTexts()
	wrong := []string{
		"", " ", "0", "i32", "32", "nop 0", "nop ", " nop", "nop\n", "nop\x00", "NOP", "nop nop", "end 0", "select i32", "drop 1",
		"block 64", "block i32 i32", "block i32 i64", "block i32 ", "block ", "block  i32", "block f32", "block ?", "block I32", "block 127", "block i3", "block i321", "block -1", "if 0", "loop i64 0", "else i32", "end i32",
		"br", "br ", "br 01", "br 00", "br -0", "br -1", "br +1", "br 0x1", "br 4294967296", "br 18446744073709551616", "br 4294967295 ", "br 1 1", "br  1", "br 1.0", "br 1e1", "br 1_0", "br a", "br i32", "br \u0661", "br_if", "br_if 1 2",
		"br_table", "br_table ", "br_table 4294967296", "br_table 1 4294967296", "br_table 4294967296 1", "br_table 1 2 ", "br_table 1  2", "br_table 1 x 2", "br_table 1 2 x", "br_table -1 2", "br_table 1 02 3", "br_table" + strings.Repeat(" 0", 102), "br_table" + strings.Repeat(" 4294967295", 102), "br_table" + strings.Repeat(" 0", 559),
		"call", "call -1", "call f", "call 4294967296", "call_indirect", "call_indirect 0", "call_indirect 0 0 0", "call_indirect 4294967296 0", "call_indirect 0 4294967296",
		"i32.load", "i32.load 0", "i32.load 0 0", "i32.load 0 0 0 0", "i32.load 0 0 32", "i32.load 0 0 64", "i32.load 0 0 -1", "i32.load 0 0 4294967296", "i32.load 0 0 4294967298", "i32.load 0 0 18446744073709551615", "i32.load 0 0 18446744073709551616", "i32.load 4294967296 0 0", "i32.load 0 18446744073709551616 0", "i32.load 0 -1 0", "i32.load -1 0 0", "i32.load 0 0x8 0", "i32.load offset=8",
		"memory.size", "memory.size 0 0", "memory.size -1", "memory.grow 4294967296", "memory.copy", "memory.copy 0", "memory.copy 0 0 0", "memory.fill", "memory.fill 0 0", "memory.copy 4294967296 0", "memory.copy 0 4294967296",
		"i32.const", "i32.const ", "i32.const 2147483648", "i32.const 4294967295", "i32.const -2147483649", "i32.const 0x1", "i32.const -0", "i32.const 00", "i32.const +1", "i32.const 1 1", "i32.const 1 ", "i32.const  1", "i32.const i32",
		"i64.const 9223372036854775808", "i64.const 18446744073709551615", "i64.const -9223372036854775809", "i64.const 0xf", "i64.const -01", "i64.const",
		"f32.const 0", "v128.load 0 0 0", "table.get 0", "memory.init 0 0",
		"i32.add 0", "i32.add i32.add", "i32.add\ti32", "br\t1", "br\n1", "br\u00a01", "\xff", "br \xff",
		strings.Repeat(" ", 1<<20), strings.Repeat("0", 1<<20), "br " + strings.Repeat("0", 1<<20), "br 1" + strings.Repeat(" ", 1<<20), "br_table" + strings.Repeat(" 1", 1<<19), "i32.const -" + strings.Repeat("1", 1<<20), "nop" + strings.Repeat("p", 1<<20),
	}
	for _, s := range wrong {
		if x, e := instr.Parse(s); m.one(s) || e != api.ErrForm || !zero(x) {
			t.Errorf("Parse of %.200q: %v, %d", s, x, e)
		}
	}
	for _, s := range []string{"br_table" + strings.Repeat(" 4294967295", 101), "br_table" + strings.Repeat(" 0", 101), "br_table" + strings.Repeat(" 0", 100), "br 4294967295", "i32.load 4294967295 18446744073709551615 31"} {
		if !m.one(s) {
			t.Errorf("%q is one", s)
		}
		m.parses(t, s)
	}
}

// TestParseNear is of P11.2: all texts that are one byte from a right one, or two words exchanged.
func TestParseNear(t *testing.T) {
	m := newTexts()
	for _, x := range examples() {
		s := x.text
		if len(s) > 100 {
			continue
		}
		for i := range len(s) + 1 {
			for _, c := range "0 1-9x.i4\x00\n" {
				m.parses(t, s[:i]+string(c)+s[i:])
				if i < len(s) {
					m.parses(t, s[:i]+string(c)+s[i+1:])
				}
			}
			m.parses(t, s[:i])
			m.parses(t, s[i:])
			if i < len(s) {
				m.parses(t, s[:i]+s[i+1:])
			}
		}
		words := strings.Split(s, " ")
		slices.Reverse(words)
		m.parses(t, strings.Join(words, " "))
	}
}

// TestParseRows is of P11.2: each op's name with rows of words behind it.
func TestParseRows(t *testing.T) {
	m := newTexts()
	words := []string{"0", "1", "31", "32", "-1", "2147483648", "4294967295", "4294967296", "i32", "i64", "00", "", "x"}
	for _, info := range op.All() {
		m.parses(t, info.Name)
		for _, a := range words {
			m.parses(t, info.Name+" "+a)
			for _, b := range words {
				m.parses(t, info.Name+" "+a+" "+b)
				if info.Form == op.Mem || info.Form == op.Labels || info.Form == op.Two {
					for _, c := range words {
						m.parses(t, info.Name+" "+a+" "+b+" "+c)
					}
					m.parses(t, info.Name+" "+a+" "+b+" 1 1")
				}
			}
		}
	}
}
