package text_test

import (
	"math"
	"strings"
	"testing"

	"grommet/api"
	"grommet/code"
	"grommet/instr"
	"grommet/module"
	"grommet/text"
	"grommet/types"
)

// lines are those of a text, one ; between.
func lines(s string) []string {
	return strings.Split(s, ";")
}

// TestRead is of P15.1: modules that are fit, by lines of each part.
func TestRead(t *testing.T) {
	read(t, nil, module.Empty(), 0, api.OK)
	read(t, []string{}, module.Empty(), 0, api.OK)
	read(t, someLines(), some(), 0, api.OK)
	for s, b := range map[string]code.Body{
		"end":                                  body(nil, 11),
		"nop;end":                              body(nil, 1, 11),
		"locals i64;end":                       body([]api.Type{api.I64}, 11),
		"locals i32 i64;nop;nop;end":           body([]api.Type{api.I32, api.I64}, 1, 1, 11),
		"block;end;end":                        {L: []instr.Instr{{Code: 2, A: 64}, {Code: 11}, {Code: 11}}},
		"loop i64;loop;end;end;end":            {L: []instr.Instr{{Code: 3, A: 126}, {Code: 3, A: 64}, {Code: 11}, {Code: 11}, {Code: 11}}},
		"if;else;if i32;else;end;end;end":      {L: []instr.Instr{{Code: 4, A: 64}, {Code: 5}, {Code: 4, A: 127}, {Code: 5}, {Code: 11}, {Code: 11}, {Code: 11}}},
		"if;end;br 4294967295;end":             {L: []instr.Instr{{Code: 4, A: 64}, {Code: 11}, {Code: 12, A: math.MaxUint32}, {Code: 11}}},
		"global.get 7;memory.size 1;end":       {L: []instr.Instr{{Code: 35, A: 7}, {Code: 63, A: 1}, {Code: 11}}},
		"unreachable;i64.const -5;i32.eqz;end": {L: []instr.Instr{{}, {Code: 66, A: math.MaxUint64 - 4}, {Code: 69}, {Code: 11}}},
	} {
		want := with(func(m *module.Module) {
			m.Sigs, m.Funcs = make([]types.Sig, 1), []module.Func{{Body: b}, {Body: b}}
		})
		read(t, lines("sig ()->();func 0;"+s+";func 0;"+s), want, 0, api.OK)
		want.Table = 3
		read(t, lines("sig ()->();func 0;"+s+";func 0;"+s+";table 3"), want, 0, api.OK)
	}
}

// TestReadUnfit is of P15.1: lines of modules that aren't fit have Fit's errors, ahead of a body's.
func TestReadUnfit(t *testing.T) {
	many := func(n int, s string) string { return strings.Repeat(s+";", n-1) + s }
	one := "sig ()->();"
	for s, want := range map[string]api.Errno{
		many(50, "sig ()->()"):                             api.OK,
		many(51, "sig ()->()"):                             api.ErrLong,
		"import a b 0":                                     api.ErrRange,
		"import a b 9223372036854775807":                   api.ErrRange,
		one + "import a b 0":                               api.OK,
		one + "import a b 1":                               api.ErrRange,
		one + "import  b 0":                                api.ErrName,
		one + "import a  0":                                api.ErrName,
		one + "import   0":                                 api.ErrName,
		one + "import a\tb c 0":                            api.ErrName,
		one + "import \xff c 0":                            api.ErrName,
		one + "import a " + strings.Repeat("b", 30) + " 0": api.OK,
		one + "import a " + strings.Repeat("b", 31) + " 0": api.ErrName,
		one + many(20, "import a b 0"):                     api.OK,
		one + many(21, "import a b 0"):                     api.ErrLong,
		one + "func 1;end":                                 api.ErrRange,
		one + many(100, "func 0;end"):                      api.OK,
		one + many(101, "func 0;end"):                      api.ErrLong,
		"table 1000":                                       api.OK,
		"table 1001":                                       api.ErrLong,
		"table 9223372036854775807":                        api.ErrLong,
		"memory 65536 65536":                               api.OK,
		"memory 65537 -":                                   api.ErrType,
		"memory 5 4":                                       api.ErrType,
		"memory 0 1000000000 i64":                          api.ErrType,
		many(5, "memory 0 -"):                              api.ErrLong,
		many(51, "global i32 var 0"):                       api.ErrLong,
		"table 0;export a table 0":                         api.OK,
		"table 0;export a table 1":                         api.ErrRange,
		"export a table 0":                                 api.ErrRange,
		"export a func 0":                                  api.ErrRange,
		"export a memory 0":                                api.ErrRange,
		"export a global 0":                                api.ErrRange,
		"table 0;export  table 0":                          api.ErrName,
		"table 0;export a table 0;export a table 0":        api.ErrName,
		"start 0":                           api.ErrRange,
		"start 9223372036854775807":         api.ErrRange,
		one + "func 0;end;start 0":          api.OK,
		"sig (i32)->();func 0;end;start 0":  api.ErrType,
		"elem 0":                            api.ErrRange,
		"table 0;elem 0":                    api.OK,
		"table 0;elem 4294967296":           api.ErrRange,
		"table 0;elem 18446744073709551615": api.ErrRange,
		"table 0;elem 0 0":                  api.ErrRange,
		one + "func 0;end;table 0;elem 0" + strings.Repeat(" 0", 20): api.OK,
		one + "func 0;end;table 0;elem 0" + strings.Repeat(" 0", 21): api.ErrLong,
		"data 0 0 x":                                         api.ErrRange,
		"memory 0 -;data 0 0 x":                              api.OK,
		"memory 0 -;data 1 0 x":                              api.ErrRange,
		"memory 0 -;data 0 4294967296 x":                     api.ErrRange,
		"memory 0 -;data 0 0 x" + strings.Repeat("0f", 4096): api.OK,
		"memory 0 -;data 0 0 x" + strings.Repeat("0f", 4097): api.ErrLong,
		// Bodies.
		one + "func 0;locals" + strings.Repeat(" i32", 50) + ";end":                                      api.OK,
		one + "func 0;locals" + strings.Repeat(" i32", 51) + ";end":                                      api.ErrArg,
		one + "func 1;locals" + strings.Repeat(" i32", 51) + ";end":                                      api.ErrRange,
		one + "func 0;" + many(4094, "nop") + ";end":                                                     api.OK,
		one + "func 0;" + many(4095, "nop") + ";end":                                                     api.ErrLong,
		one + "func 1;" + many(4095, "nop") + ";end":                                                     api.ErrRange,
		one + "func 0;" + many(64, "block") + ";" + many(65, "end"):                                      api.OK,
		one + "func 0;" + many(65, "block") + ";" + many(66, "end"):                                      api.ErrLong,
		one + "func 0;" + many(65, "block") + ";" + many(66, "end") + ";start 1":                         api.ErrRange,
		one + "func 0;locals" + strings.Repeat(" i32", 51) + ";" + many(5000, "nop") + ";end":            api.ErrArg,
		one + "func 0;" + many(5000, "nop") + ";end;func 0;locals" + strings.Repeat(" i32", 51) + ";end": api.ErrLong,
		one + "func 0;locals" + strings.Repeat(" i32", 51) + ";end;func 0;" + many(5000, "nop") + ";end": api.ErrArg,
	} {
		m, at, e := text.Read(lines(s))
		if (m != nil) != (want == api.OK) || at != 0 || e != want {
			t.Errorf("Read of %.100q: %d, %d, not %d", s, at, e, want)
		}
		if l, e := text.Write(m); m != nil && (e != api.OK || strings.Join(l, ";") != s) {
			t.Errorf("Write of what was read of %.100q: %.100q, %d", s, l, e)
		}
	}
}

// wrongLines are, by the parts' words, lines that are none.
func wrongLines() map[string][]string {
	return map[string][]string{
		"sig":    {"sig", "sig ", "sig ()", "sig ()->() ", "sig  ()->()", "sig ()->()->()", "sig (i32 )->()", "sig (i32, i64)->()", "sig (f32)->()", "sig (i32,)->()", "sig () -> ()", "Sig ()->()", "sig()->()", " sig ()->()", "sig (?)->()", "sig (" + strings.Repeat("i32,", 20) + "i32)->()"},
		"import": {"import", "import a", "import a b", "import a b c", "import a b 0 ", "import a b c 0", "import a b 00", "import a b +0", "import a b -0", "import a b -1", "import a b 0x0", "import a b ", "import  a b 0 ", "import a b 9223372036854775808", "import a b 18446744073709551616", "import a b 1.0", "import 0", "import  0"},
		"func":   {"func", "func ", "func 0 ", "func  0", "func 00", "func 01", "func -1", "func -0", "func +1", "func a", "func 0 0", "func 0x1", "func 9223372036854775808", "func 99999999999999999999999", "func ()->()", "func 1_0"},
		"table":  {"table", "table ", "table -1", "table -2", "table 00", "table 05", "table 1 2", "table 1 ", "table x", "table 9223372036854775808", "table 18446744073709551615", "table 0x5", "table +5", "tables 5", "table5"},
		"memory": {"memory", "memory ", "memory 1", "memory 1 ", "memory 1 2 3", "memory 1 2 i32", "memory - 1", "memory - -", "memory -1 2", "memory 1 -1", "memory 01 2", "memory 1 02", "memory 1  2", "memory 1 2 ", "memory 1 2  i64", "memory 1000000001 -", "memory 0 1000000001", "memory 1 2 i64 i64", "memory 1 i64", "memory 0x1 -", "memory.size 0", "memory.copy 0 0"},
		"global": {"global", "global i32", "global i32 var", "global i32 var ", "global i32 0", "global var i32 0", "global i32 mut 0", "global i32  var 0", "global i32 var 0 ", "global i32 var 00", "global i32 var -0", "global i32 var +1", "global i32 var 0x1", "global i32 var 2147483648", "global i32 var 4294967295", "global i32 var -2147483649", "global i64 var 9223372036854775808", "global i64 const 18446744073709551615", "global i64 const -9223372036854775809", "global f32 var 0", "global ? var 0", "global 32 var 0", "global i32 var 1 2", "global i32 Var 1", "global.get 0", "global  i32 var 0"},
		"export": {"export", "export a", "export a func", "export a func ", "export a 0", "export a fun 0", "export a func 0 ", "export a func 00", "export a func -1", "export a 0 0", "export a b func 0", "export a mem 0", "export a func 0 0", "export func 0", "export a start 0", "export a func 9223372036854775808", "export a  0"},
		"start":  {"start", "start ", "start -1", "start -2", "start 00", "start 0 ", "start 0 0", "start f", "start 9223372036854775808", "start 0x0"},
		"elem":   {"elem", "elem ", "elem 0 ", "elem  0", "elem 0  1", "elem 0 1 ", "elem 00", "elem -1", "elem 0 01", "elem 0 -1", "elem 0x0", "elem 18446744073709551616", "elem 0 9223372036854775808", "elem a", "elem 0 a", "elem 0 1 2 x"},
		"data":   {"data", "data 0", "data 0 0", "data 0 0 ", "data 0 0 0", "data 0 0 00", "data 0 0 x0", "data 0 0 x0F", "data 0 0 xg0", "data 0 0 x0g", "data 0 0 X00", "data 0 0 x00 ", "data 0 0 x00 x00", "data 0 0 x 00", "data 0 -1 x", "data -1 0 x", "data 00 0 x", "data 0 00 x", "data 0 18446744073709551616 x", "data 9223372036854775808 0 x", "data 0 0 0x00", "data 0  0 x", "data 0 x00", "data 0 0 x0x0", "data 0 0 x 0", "data 0 0 x000", "data 0 0 x-1", "data 0 0 x+1"},
	}
}

// words are the parts' words, in their order.
func words() []string {
	return []string{"sig", "import", "func", "table", "memory", "global", "export", "start", "elem", "data"}
}

// groups are lines of a module that is fit, by parts.
func groups() [][]string {
	return [][]string{
		{"sig ()->()", "sig (i32)->()"},
		{"import a b 1"},
		{"func 0", "locals i32", "nop", "end", "func 1", "if", "else", "end", "end"},
		{"table 3"},
		{"memory 1 -", "memory 0 0 i64"},
		{"global i32 var -1", "global i64 const 5"},
		{"export f func 0", "export g global 1"},
		{"start 1"},
		{"elem 2 1", "elem 0"},
		{"data 1 0 x00", "data 0 5 x"},
	}
}

// flat are the lines of groups.
func flat(l [][]string) []string {
	var out []string
	for _, g := range l {
		out = append(out, g...)
	}
	return out
}

// TestReadWrong is of P15.1: the number of the first line that is none.
func TestReadWrong(t *testing.T) {
	all := wrongLines()
	form := func(place int, l ...string) {
		t.Helper()
		read(t, l, nil, place, api.ErrForm)
	}
	for i, word := range words() {
		ahead := flat(groups()[:i])
		rest := flat(groups()[i+1:])
		for _, s := range all[word] {
			form(1, s)
			form(1, s, "sig", "nop")
			form(len(ahead)+1, append(append(ahead[:len(ahead):len(ahead)], s), rest...)...)
			if word != "table" && word != "start" {
				l := append(append(ahead[:len(ahead):len(ahead)], groups()[i]...), s)
				form(len(l), append(l, rest...)...)
			}
		}
	}
	ahead := flat(groups())
	for _, s := range []string{"", " ", "nop", "end", "locals i32", "foo", "foo 1", "sigs ()->()", "\x00", "SIG", "-", "i32.const 1", "block", "\t", strings.Repeat("x", 100_000), strings.Repeat(" ", 100_000), "sig ()->()\r", "# sig"} {
		form(1, s)
		form(1, s, "")
		form(len(ahead)+1, append(ahead[:len(ahead):len(ahead)], s)...)
		form(2, "sig ()->()", s, "func 0", "end")
		form(4, "sig ()->()", "func 0", "end", s, "func 0", "end")
	}
	form(1, "sig ()->()\nsig ()->()")
	form(1, "data 0 0 x00\n")
}

// TestReadOrder is of P15.1: a line that stands behind one of a later part, and a second table, or start.
func TestReadOrder(t *testing.T) {
	l := groups()
	read(t, flat(l), mustRead(t, flat(l)), 0, api.OK)
	for i := range l {
		for j := range l {
			got := append(append([]string(nil), l[j]...), l[i]...)
			m, at, e := text.Read(got)
			switch {
			case j > i, j == i && (i == 3 || i == 7):
				read(t, got, nil, len(l[j])+1, api.ErrForm)
				read(t, append(got, "sig", ""), nil, len(l[j])+1, api.ErrForm)
			case at != 0 || e == api.ErrForm:
				t.Errorf("Read of %q: %+v, %d, %d", got, m, at, e)
			}
		}
		// Each part may be missing, as far as numbers go.
		missing := flat(append(append([][]string(nil), l[:i]...), l[i+1:]...))
		if _, at, e := text.Read(missing); at != 0 || e == api.ErrForm {
			t.Errorf("Read without %s: %d, %d", l[i][0], at, e)
		}
	}
	read(t, lines("table 3;table 3"), nil, 2, api.ErrForm)
	read(t, lines("table 3;table 4;sig"), nil, 2, api.ErrForm)
	read(t, lines("table 0;table 0"), nil, 2, api.ErrForm)
	read(t, lines("sig ()->();func 0;end;start 0;start 0"), nil, 5, api.ErrForm)
	read(t, lines("start 0;start 0"), nil, 2, api.ErrForm)
	read(t, lines("start 0;table 0"), nil, 2, api.ErrForm)
	read(t, lines("data 0 0 x;sig x"), nil, 2, api.ErrForm)
}

// mustRead is the module of lines.
func mustRead(t *testing.T, l []string) *module.Module {
	t.Helper()
	m, at, e := text.Read(l)
	if e != api.OK {
		t.Fatalf("Read of %q: %d, %d", l, at, e)
	}
	return m
}

// TestReadBodies is of P15.1: instructions that can't stand there, and bodies that aren't closed.
func TestReadBodies(t *testing.T) {
	deep := strings.Repeat("block;", 65)
	for _, c := range []struct {
		s     string
		place int
	}{
		// Not closed at the end.
		{"func 0", 1},
		{"func 0;nop", 2},
		{"func 0;locals i32", 2},
		{"func 0;block;end", 3},
		{"func 0;if;else", 3},
		{"func 0;end;func 0;block;nop;end", 6},
		{"func 9;loop;loop;end", 4},
		{"func 0;" + deep + "nop", 67},
		// What can't stand there.
		{"func 0;else;end", 2},
		{"func 0;nop;else", 3},
		{"func 0;block;else;end;end", 3},
		{"func 0;loop;else;end;end", 3},
		{"func 0;if;else;else;end;end", 4},
		{"func 0;if;block;else;end;end;end", 4},
		{"func 0;if;end;else;end", 4},
		{"func 0;if;else;block;end;else;end;end", 6},
		{"func 0;if;else;if;else;end;else", 7},
		{"func 0;end;end", 3},
		{"func 0;end;nop", 3},
		{"func 0;end;else", 3},
		{"func 0;block;end;end;end", 5},
		{"func 0;end;locals i32", 3},
		{"func 0;" + deep + "else", 67},
		{"func 0;" + deep + strings.Repeat("end;", 66) + "end", 133},
		// Locals.
		{"func 0;locals;end", 2},
		{"func 0;locals ;end", 2},
		{"func 0;locals i32 ;end", 2},
		{"func 0;locals  i32;end", 2},
		{"func 0;locals f32;end", 2},
		{"func 0;locals i32 ?;end", 2},
		{"func 0;locals i32,i64;end", 2},
		{"func 0;locals i32;locals i32;end", 3},
		{"func 0;nop;locals i32;end", 3},
		{"func 0;block;locals i32;end;end", 3},
		{"func 0;local i32;end", 2},
		{"func 0;Locals i32;end", 2},
		{"locals i32;func 0;end", 1},
		// Lines that are no instructions.
		{"func 0;", 2},
		{"func 0; nop;end", 2},
		{"func 0;  nop;end", 2},
		{"func 0;nop ;end", 2},
		{"func 0;NOP;end", 2},
		{"func 0;block;  nop;end;end", 3},
		{"func 0;i32.const 4294967295;end", 2},
		{"func 0;i32.const 0x1;end", 2},
		{"func 0;i32.const;end", 2},
		{"func 0;br 01;end", 2},
		{"func 0;f32.const 1;end", 2},
		{"func 0;func 0;end;end", 2},
		{"func 0;sig ()->();end", 2},
		{"func 0;table 3", 2},
		{"func 0;nop;memory 1 -", 3},
		{"func 0;block;end;start 0", 4},
		{"func 0;block i32 i32;end;end", 2},
		{"func 0;nop;foo;else", 3},
	} {
		read(t, lines(c.s), nil, c.place, api.ErrForm)
		read(t, lines("sig ()->();import a b 0;"+c.s), nil, c.place+2, api.ErrForm)
		read(t, lines("sig ()->();func 0;locals i64;block;end;end;"+c.s), nil, c.place+6, api.ErrForm)
	}
}

// TestParse is of P15.1: lines that are ended, a last one that isn't, and too many bytes.
func TestParse(t *testing.T) {
	for s, want := range map[string]struct {
		at int
		e  api.Errno
	}{
		"":                             {0, api.OK},
		"\n":                           {1, api.ErrForm},
		"sig ()->()\n":                 {0, api.OK},
		"sig ()->()":                   {1, api.ErrForm},
		"sig ()->()\n\n":               {2, api.ErrForm},
		"\nsig ()->()\n":               {1, api.ErrForm},
		"sig ()->()\nsig ()->()":       {2, api.ErrForm},
		"sig ()->()\nsig ()->()\n":     {0, api.OK},
		"sig ()->()\nnop\nfoo\n":       {2, api.ErrForm},
		"sig ()->()\nnop\nfoo\nsig":    {4, api.ErrForm},
		"nop\nnop\n ":                  {3, api.ErrForm},
		"start 0\nsig ()->()":          {2, api.ErrForm},
		"start 0\n":                    {0, api.ErrRange},
		"func 0\nblock\nend\n":         {3, api.ErrForm},
		"func 0\nblock\nend\nend":      {4, api.ErrForm},
		"sig ()->()\r\n":               {1, api.ErrForm},
		"sig ()->()\n\x00":             {2, api.ErrForm},
		"sig ()->()\nsig ()->()\n\n\n": {3, api.ErrForm},
	} {
		m, at, e := text.Parse(s)
		if (m != nil) != (e == api.OK) || at != want.at || e != want.e {
			t.Errorf("Parse of %q: %d, %d, not %d, %d", s, at, e, want.at, want.e)
		}
	}
	// As many bytes as may be, and one more: a line of 12 bytes, and one that is longer.
	body := "sig ()->()\nfunc 0\n" + strings.Repeat("nop\n", (api.MaxText-24)/4) + "br 1\n"
	if m, at, e := text.Parse(body + "\n"); m != nil || at != strings.Count(body, "\n")+1 || e != api.ErrForm || len(body) != api.MaxText-1 {
		t.Errorf("Parse of the most bytes, %d: %d, %d", len(body)+1, at, e)
	}
	for _, more := range []string{"\n\n", "nop\n", "no", "\nx"} {
		if m, at, e := text.Parse(body + more); m != nil || at != 0 || e != api.ErrLong {
			t.Errorf("Parse of more: %d, %d", at, e)
		}
	}
	if m, at, e := text.Parse(body + "x"); m != nil || at != strings.Count(body, "\n")+1 || e != api.ErrForm {
		t.Errorf("Parse of the most bytes, not ended: %d, %d", at, e)
	}
}
