package types_test

import (
	"regexp"
	"strings"
	"testing"

	"grommet/api"
	"grommet/types"
)

const (
	list   = `((?:(?:i32|i64)(?:,(?:i32|i64)){0,19})?)`
	number = `(0|[1-9][0-9]{0,8}|1000000000)`
)

var (
	sigText    = regexp.MustCompile(`\A\(` + list + `\)->\(` + list + `\)\z`)
	limitsText = regexp.MustCompile(`\A` + number + ` (?:(-)|` + number + `)( i64)?\z`)
)

// TestParseSig is of P9.1 and P9.3: what is printed is parsed.
func TestParseSig(t *testing.T) {
	for _, s := range sigs() {
		if got, e := types.ParseSig(s.Print()); e != api.OK || !alike(got, s) {
			t.Errorf("ParseSig(%q): %v, %d", s.Print(), got, e)
		}
	}
}

// TestParseSigWrong is of P9.1: what no signature's text is.
func TestParseSigWrong(t *testing.T) {
	for _, s := range []string{
		"", "(", ")", "->", "()", "()->", "->()", "()()", "()-()", "()>()", "()- >()", "() ->()", "()-> ()", " ()->()", "()->() ", "()->()\n", "()->()->()", "(()->())", "(())->()", "()->(())",
		"( )->()", "()->( )", "(,)->()", "()->(,)", "(i32,)->()", "(,i32)->()", "(i32,,i32)->()", "(i32, i32)->()", "(i32 ,i32)->()", "(i32 i32)->()", "(i32i32)->()", "(i32;i64)->()", "(i32)->(i64,)",
		"(f32)->()", "()->(f64)", "(?)->()", "()->(?)", "(i32,?)->()", "(I32)->()", "(i31)->()", "(i128)->()", "(i3)->()", "(i)->()", "(i322)->()", "(127)->()", "(v128)->()", "i32->i32", "(i32->(i32)", "i32)->(i32)", "(i32)->(i32", "(i32)->i32)",
		"(i32)->(i32))", "((i32)->(i32)", "(i32)(->i32)", "(i32->i32)", "()->()()->()", "\x00()->()", "()->()\x00",
	} {
		refused(t, s)
	}
	for _, n := range []int{most + 1, most + 2, 40, 1000} {
		for _, first := range both {
			l := row(n, first)
			for _, s := range []types.Sig{{Params: l}, {Results: l}, {Params: l, Results: l}, {Params: row(most, first), Results: l}} {
				refused(t, s.Print())
			}
		}
	}
	for _, part := range []string{"(", ")", "i32,", "->", "()->()", ",", "\x00"} {
		refused(t, strings.Repeat(part, api.MaxText/4))
		refused(t, "("+strings.Repeat(part, api.MaxText/4))
		refused(t, "()->("+strings.Repeat(part, api.MaxText/4)+")")
	}
}

// refused holds ParseSig against ErrForm.
func refused(t *testing.T, s string) {
	t.Helper()
	if got, e := types.ParseSig(s); got.Params != nil || got.Results != nil || e != api.ErrForm {
		t.Errorf("ParseSig(%.60q): %v, %d", s, got, e)
	}
}

// sig holds ParseSig against what a rule of texts tells.
func sig(t *testing.T, s string) {
	t.Helper()
	m := sigText.FindStringSubmatch(s)
	if m == nil {
		refused(t, s)
		return
	}
	want := types.Sig{Params: read(m[1]), Results: read(m[2])}
	if got, e := types.ParseSig(s); e != api.OK || !alike(got, want) || got.Print() != s {
		t.Errorf("ParseSig(%q): %v, %d", s, got, e)
	}
}

// read is a list of types that is one.
func read(s string) []api.Type {
	var l []api.Type
	for i := 2; i < len(s); i += 4 {
		l = append(l, map[byte]api.Type{'2': api.I32, '4': api.I64}[s[i]])
	}
	return l
}

// rows calls f with all rows of up to so many parts.
func rows(parts []string, n int, f func(string)) {
	var more func(string, int)
	more = func(s string, left int) {
		f(s)
		for _, p := range parts {
			if left > 0 {
				more(s+p, left-1)
			}
		}
	}
	more("", n)
}

// changed calls f with texts that are a text but for one byte, which is left out, put in, or another one.
func changed(s string, f func(string)) {
	for i := range len(s) + 1 {
		for c := range 256 {
			f(s[:i] + string([]byte{byte(c)}) + s[i:])
			if i < len(s) {
				f(s[:i] + string([]byte{byte(c)}) + s[i+1:])
			}
		}
		if i < len(s) {
			f(s[:i] + s[i+1:])
			f(s[:i])
			f(s[i:])
		}
	}
}

// TestSigTexts is of P9.1 and P9.3: all texts of up to seven of these parts, and all that are nearly a signature's.
func TestSigTexts(t *testing.T) {
	rows([]string{"(", ")", "->", ",", "i32", "i64", " "}, 7, func(s string) { sig(t, s) })
	for _, s := range []string{"()->()", "(i32)->(i64)", "(i32,i64)->(i32)", "(i64,i32,i32)->(i64,i64)"} {
		changed(s, func(x string) { sig(t, x) })
	}
	full := types.Sig{Params: row(most, api.I32), Results: row(most, api.I64)}
	changed(full.Print(), func(x string) { sig(t, x) })
}

// TestParseLimits is of P9.2 and P9.3: what is printed is parsed, whether it is right or not.
func TestParseLimits(t *testing.T) {
	ns := []int{0, 1, 2, 9, 10, 99, 100, 65535, 65536, 65537, 999_999_999, 1_000_000_000}
	for _, low := range ns {
		for _, high := range append([]int{-1}, ns...) {
			for _, wide := range []bool{false, true} {
				want := types.Limits{Min: low, Max: high, Wide: wide}
				if got, e := types.ParseLimits(want.Print()); got != want || e != api.OK {
					t.Errorf("ParseLimits(%q): %v, %d", want.Print(), got, e)
				}
			}
		}
	}
	for _, high := range []int{-2, -1 << 31, -1 << 63} {
		l := types.Limits{Min: 3, Max: high}
		if got, e := types.ParseLimits(l.Print()); got != (types.Limits{Min: 3, Max: -1}) || e != api.OK {
			t.Errorf("ParseLimits(%q): %v, %d", l.Print(), got, e)
		}
	}
}

// TestParseLimitsWrong is of P9.2: what no limits' text is.
func TestParseLimitsWrong(t *testing.T) {
	for _, s := range []string{
		"", " ", "1", "-", "1 ", " 1", "- -", "- 1", "1 1 ", " 1 1", "1  1", "1 -1", "-1 1", "-1 -", "1 --", "1 - ", "1 -0", "-0 1", "+1 1", "1 +1", "01 2", "1 02", "00 0", "0 00", "1 2 3", "1 2 3 i64", "1_0 20", "0x1 2", "1 0x2", "1. 2", "1e1 20",
		"1 2 i32", "1 2  i64", "1 2 i64 ", "1 2i64", "1 2 I64", "1 2 i64 i64", "1 i64", "i64", " i64", "1  i64", "1 - i6", "1 - i644", "1 -i64", "1\t2", "1\n2", "1 2\n", "1,2", "a b", "1 b", "a 1", "1 2\x00", "\x001 2",
		"1000000001 1000000001", "0 1000000001", "1000000001 -", "1000000001 0", "9999999999 -", "0 9999999999", "4294967296 -", "0 4294967297", "18446744073709551616 -", "0 18446744073709551617", "0 01000000000", "00000000000 0", "99999999999999999999999999 -",
		"\u0661 \u0662", "1\u00a02",
	} {
		missed(t, s)
	}
	for _, part := range []string{"1", "0", " ", "-", "1 ", " i64", "-1"} {
		long := strings.Repeat(part, api.MaxText/4)
		for _, s := range []string{long, "1 " + long, long + " 1", "1 " + long + " i64", "1 1" + long + "i64"} {
			missed(t, s)
		}
	}
}

// missed holds ParseLimits against ErrForm.
func missed(t *testing.T, s string) {
	t.Helper()
	if got, e := types.ParseLimits(s); got != (types.Limits{}) || e != api.ErrForm {
		t.Errorf("ParseLimits(%.60q): %v, %d", s, got, e)
	}
}

// limits holds ParseLimits against what a rule of texts tells.
func limits(t *testing.T, s string) {
	t.Helper()
	m := limitsText.FindStringSubmatch(s)
	if m == nil {
		missed(t, s)
		return
	}
	want := types.Limits{Min: count(m[1]), Max: count(m[3]), Wide: m[4] != ""}
	if m[2] == "-" {
		want.Max = -1
	}
	if got, e := types.ParseLimits(s); got != want || e != api.OK || got.Print() != s {
		t.Errorf("ParseLimits(%q): %v, %d, not %v", s, got, e, want)
	}
}

// count is the number of digits.
func count(s string) int {
	n := 0
	for _, c := range s {
		n = 10*n + int(c-'0')
	}
	return n
}

// TestLimitsTexts is of P9.2 and P9.3: all texts of up to six of these parts, and all that are nearly limits'.
func TestLimitsTexts(t *testing.T) {
	rows([]string{"0", "1", "7", "-", " ", " i64", "000000", "i64", "+"}, 6, func(s string) { limits(t, s) })
	for _, s := range []string{"0 0", "1 -", "12 345 i64", "0 - i64", "1000000000 1000000000 i64", "999999999 1000000000"} {
		changed(s, func(x string) { limits(t, x) })
	}
}
