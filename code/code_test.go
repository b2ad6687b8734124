package code_test

import (
	"bytes"
	"math"
	"slices"
	"strings"
	"testing"

	"grommet/api"
	"grommet/code"
	"grommet/instr"
)

// types are locals, a digit each: 3 of i32, 6 of i64, another one of that byte.
func types(s string) []api.Type {
	var l []api.Type
	for i := range len(s) {
		switch s[i] {
		case '3':
			l = append(l, api.I32)
		case '6':
			l = append(l, api.I64)
		default:
			l = append(l, api.Type(s[i]))
		}
	}
	return l
}

// body is one of these locals and these instructions.
func body(locals, l string) code.Body {
	return code.Body{Locals: types(locals), L: letters(l)}
}

// is tells whether two bodies have the same parts; it leans on nothing of the package.
func is(a, b code.Body) bool {
	return slices.Equal(a.Locals, b.Locals) && slices.EqualFunc(a.L, b.L, instr.Same)
}

// zero tells whether a body is the zero one, without lists.
func zero(b code.Body) bool {
	return b.Locals == nil && b.L == nil
}

// TestEncode is of P12.2: bytes, in as few runs as there may be.
func TestEncode(t *testing.T) {
	for _, c := range []struct{ locals, l, want string }{
		{"", ".", "\x00\x0b"},
		{"3", ".", "\x01\x01\x7f\x0b"},
		{"6", ".", "\x01\x01\x7e\x0b"},
		{"336", ".", "\x02\x02\x7f\x01\x7e\x0b"},
		{"3633", ".", "\x03\x01\x7f\x01\x7e\x02\x7f\x0b"},
		{"66666", "n.", "\x01\x05\x7e\x01\x0b"},
		{strings.Repeat("3", 50), ".", "\x01\x32\x7f\x0b"},
		{strings.Repeat("36", 25), ".", "\x32" + strings.Repeat("\x01\x7f\x01\x7e", 25) + "\x0b"},
		{strings.Repeat("6", 49) + "3", "nn.", "\x02\x31\x7e\x01\x7f\x01\x01\x0b"},
		{"", "b..", "\x00\x02\x40\x0b\x0b"},
		{"", "iec..", "\x00\x04\x7e\x05\x41\x07\x0b\x0b"},
		{"", deep(64, "n") + ".", "\x00" + strings.Repeat("\x02\x40", 64) + "\x01" + strings.Repeat("\x0b", 65)},
		{"", strings.Repeat("n", 4094) + ".", "\x00" + strings.Repeat("\x01", 4094) + "\x0b"},
		{"3", strings.Repeat("n", 4092) + ".", "\x01\x01\x7f" + strings.Repeat("\x01", 4092) + "\x0b"},
		{"", strings.Repeat("c", 2047) + ".", "\x00" + strings.Repeat("\x41\x07", 2047) + "\x0b"},
	} {
		b := body(c.locals, c.l)
		if got, e := b.Encode(); string(got) != c.want || e != api.OK {
			t.Errorf("Encode of %s, %.40s: %x, %d, not %x", c.locals, c.l, got, e, c.want)
		}
		if got, at, e := code.Read([]byte(c.want)); !is(got, b) || at != 0 || e != api.OK {
			t.Errorf("Read of %x: %v, %d, %d", c.want, got, at, e)
		}
	}
}

// TestEncodeWrong is of P12.2: what is told of bodies that have no bytes; ErrArg ahead of Spans' errors, these ahead of ErrLong.
func TestEncodeWrong(t *testing.T) {
	long, many := strings.Repeat("n", 5000), strings.Repeat("3", 51)
	for _, c := range []struct {
		locals, l string
		want      api.Errno
	}{
		{"", "w.", api.ErrArg},
		{"", ".w", api.ErrArg},
		{"", "w", api.ErrArg},
		{"", "e.w", api.ErrArg},
		{"", deep(65, "") + ".w", api.ErrArg},
		{"", long + "w.", api.ErrArg},
		{"\x00", ".", api.ErrArg},
		{"3\x7d6", ".", api.ErrArg},
		{"\x40", ".", api.ErrArg},
		{"3\x80", ".", api.ErrArg},
		{"36\xff", "e", api.ErrArg},
		{many, ".", api.ErrArg},
		{many + "6", "", api.ErrArg},
		{strings.Repeat("36", 26), "e", api.ErrArg},
		{many, long + ".", api.ErrArg},
		{"\x00", deep(65, "") + ".", api.ErrArg},
		{"", "", api.ErrForm},
		{"336", "", api.ErrForm},
		{"", "n", api.ErrForm},
		{"", "b.", api.ErrForm},
		{"", "..", api.ErrForm},
		{"", "e.", api.ErrForm},
		{"", ".n", api.ErrForm},
		{"", long, api.ErrForm},
		{"", "." + long, api.ErrForm},
		{"", long + "e.", api.ErrForm},
		{"", deep(65, "") + ".", api.ErrLong},
		{"", deep(65, "") + ".e", api.ErrLong},
		{"", "n.e" + deep(65, "") + ".", api.ErrForm},
		{"", strings.Repeat("n", 4095) + ".", api.ErrLong},
		{"", strings.Repeat("c", 2047) + "n.", api.ErrLong},
		{"3", strings.Repeat("n", 4093) + ".", api.ErrLong},
		{"36", strings.Repeat("n", 4091) + ".", api.ErrLong},
		{"", long + ".", api.ErrLong},
	} {
		if b, e := body(c.locals, c.l).Encode(); b != nil || e != c.want {
			t.Errorf("Encode of %q, %.40s: %x, %d, not %d", c.locals, c.l, b, e, c.want)
		}
	}
	for _, x := range []instr.Instr{{Code: 2}, {Code: 2, A: 125}, {Code: 11, A: 1}, {Code: 65, A: 1 << 32}, {Code: -1}, {Code: 12, A: 1 << 32}, {Code: 40, Align: 32}, {Code: 1, L: []uint64{0}}, {Code: 67}, {Code: math.MaxInt}} {
		if b, e := (code.Body{L: []instr.Instr{x, {Code: 11}}}).Encode(); b != nil || e != api.ErrArg {
			t.Errorf("Encode with %v: %x, %d", x, b, e)
		}
	}
}

// TestRead is of P12.2: runs as they are, numbers with needless bytes.
func TestRead(t *testing.T) {
	for s, want := range map[string]code.Body{
		"\x00\x0b":                                 body("", "."),
		"\x80\x00\x0b":                             body("", "."),
		"\x01\x00\x7f\x0b":                         body("", "."),
		"\x03\x01\x7f\x00\x7e\x01\x7f\x0b":         body("33", "."),
		"\x02\x01\x7e\x02\x7e\x01\x0b":             body("666", "n."),
		"\x81\x80\x00\x82\x80\x80\x80\x00\x7f\x0b": body("33", "."),
		"\x03\x32\x7f\x00\x7e\x00\x7f\x0b":         body(strings.Repeat("3", 50), "."),
		"\x02\x31\x7f\x01\x7e\x0b":                 body(strings.Repeat("3", 49)+"6", "."),
		"\x00\x41\x87\x00\x0b":                     body("", "c."),
		"\x00\x02\x40\x01\x0b\x0b":                 body("", "bn.."),
		"\x00\x04\x7e\x05\x0b\x0b":                 body("", "ie.."),
	} {
		if b, at, e := code.Read([]byte(s)); !is(b, want) || at != 0 || e != api.OK {
			t.Errorf("Read of %x: %v, %d, %d", s, b, at, e)
		}
	}
	many := "\xe8\x07" + strings.Repeat("\x00\x7e", 1000) + "\x0b"
	if b, at, e := code.Read([]byte(many)); !is(b, body("", ".")) || at != 0 || e != api.OK {
		t.Errorf("Read of many runs of none: %v, %d, %d", b, at, e)
	}
	most := "\x00" + strings.Repeat("\x01", 4094) + "\x0b"
	if b, at, e := code.Read([]byte(most)); len(b.L) != 4095 || at != 0 || e != api.OK {
		t.Errorf("Read of the most bytes: %d, %d, %d", len(b.L), at, e)
	}
}

// TestReadWrong is of P12.2: the first place that can't be read, and the error.
func TestReadWrong(t *testing.T) {
	fifty := "\x01\x32\x7f"
	blocks := "\x00" + strings.Repeat("\x02\x40", 64)
	for _, c := range []struct {
		s  string
		at int
		e  api.Errno
	}{
		// How many runs.
		{"", 0, api.ErrShort},
		{"\x80", 0, api.ErrShort},
		{"\x80\x80\x80\x80\x10\x0b", 0, api.ErrForm},
		{"\xff\xff\xff\xff\xff\x0b", 0, api.ErrForm},
		// How many locals.
		{"\x01", 1, api.ErrShort},
		{"\x01\x80", 1, api.ErrShort},
		{"\x01\xff\xff\xff\xff\x1f\x7f\x0b", 1, api.ErrForm},
		{"\x02\x01\x7f", 3, api.ErrShort},
		{"\x02\x01\x7f\x0b", 4, api.ErrShort},
		{"\xff\xff\xff\xff\x0f\x00\x7f", 7, api.ErrShort},
		{"\x81\x00\x81", 2, api.ErrShort},
		// Types.
		{"\x01\x01", 2, api.ErrShort},
		{"\x01\x81\x80\x00", 4, api.ErrShort},
		{"\x01\x01\x05\x0b", 2, api.ErrForm},
		{"\x01\x01\x7d\x0b", 2, api.ErrForm},
		{"\x01\x01\x40\x0b", 2, api.ErrForm},
		{"\x01\x01\xff\x7f\x0b", 2, api.ErrForm},
		{"\x01\x00\x80\x0b", 2, api.ErrForm},
		{"\x02\x01\x7f\x01\x80\x0b", 4, api.ErrForm},
		// Too many locals: the run's place, once it is read.
		{"\x01\x33\x7f\x0b", 1, api.ErrLong},
		{"\x01\x33\x7f", 1, api.ErrLong},
		{"\x01\x33\x05\x0b", 2, api.ErrForm},
		{"\x01\x33", 2, api.ErrShort},
		{"\x01\xff\xff\xff\xff\x0f\x7e\x0b", 1, api.ErrLong},
		{"\x01\xff\xff\xff\xff\x0f\x00\x0b", 6, api.ErrForm},
		{"\x02\x32\x7f\x01\x7f\x0b", 3, api.ErrLong},
		{"\x03\x31\x7f\x01\x7e\x01\x7f\x0b", 5, api.ErrLong},
		{"\x03\x32\x7f\x00\x7f\xff\xff\xff\xff\x0f\x7e\x0b", 5, api.ErrLong},
		{"\x02\x33\x7f\x01\x05", 1, api.ErrLong},
		// Instructions that can't be read.
		{"\x00\x06", 1, api.ErrForm},
		{"\x00\xfd\x00", 1, api.ErrProfile},
		{"\x00\x01\x43\x00\x00\x00\x00\x0b", 2, api.ErrProfile},
		{"\x00\x01\x0e\x65", 2, api.ErrLong},
		{"\x00\x41", 1, api.ErrShort},
		{"\x00\x02", 1, api.ErrShort},
		{"\x00\x02\x05\x0b\x0b", 1, api.ErrForm},
		{"\x00\x01\x28\x42\x01", 2, api.ErrShort},
		{"\x00\x41\x80\x80\x80\x80\x08\x0b", 1, api.ErrForm},
		{"\x00\xfc\x00\x0b", 1, api.ErrProfile},
		{fifty + "\x06", 3, api.ErrForm},
		// Instructions that can't stand there.
		{"\x00\x05\x0b", 1, api.ErrForm},
		{"\x00\x01\x02\x40\x05\x0b\x0b", 4, api.ErrForm},
		{"\x00\x04\x40\x05\x01\x05\x0b\x0b", 5, api.ErrForm},
		{"\x00\x05\xfd", 1, api.ErrForm},
		{blocks + "\x02\x40", 129, api.ErrLong},
		{blocks + "\x01\x03\x7f\x0b", 130, api.ErrLong},
		{blocks + "\x04\x40\xfd", 129, api.ErrLong},
		{blocks + "\x02\x05", 129, api.ErrForm},
		{blocks + "\x02", 129, api.ErrShort},
		{blocks + "\x05", 129, api.ErrForm},
		// Behind the last end.
		{"\x00\x0b\x01", 2, api.ErrForm},
		{"\x00\x0b\x0b", 2, api.ErrForm},
		{"\x00\x0b\x02\x40", 2, api.ErrForm},
		{"\x00\x0b\x05", 2, api.ErrForm},
		{"\x00\x0b\xfd", 2, api.ErrForm},
		{"\x00\x0b\x0e\x65", 2, api.ErrForm},
		{"\x00\x0b\x41", 2, api.ErrForm},
		{"\x00\x0b\x06", 2, api.ErrForm},
		{"\x00\x02\x40\x0b\x0b\x43", 5, api.ErrForm},
		// It isn't closed.
		{"\x00", 1, api.ErrForm},
		{"\x00\x01", 2, api.ErrForm},
		{"\x00\x02\x40\x0b", 4, api.ErrForm},
		{"\x00\x04\x40\x05\x0b", 5, api.ErrForm},
		{"\x01\x01\x7f", 3, api.ErrForm},
		{blocks, 129, api.ErrForm},
		{"\x00" + strings.Repeat("\x01", 4095), 4096, api.ErrForm},
		// Too many bytes.
		{"\x00" + strings.Repeat("\x01", 4095) + "\x0b", 0, api.ErrLong},
		{strings.Repeat("\x06", 4097), 0, api.ErrLong},
		{"\x00\x0b" + strings.Repeat("\x00", 70000), 0, api.ErrLong},
		{"\x00\x06" + strings.Repeat("\x00", 4094), 1, api.ErrForm},
	} {
		if b, at, e := code.Read([]byte(c.s)); !zero(b) || at != c.at || e != c.e {
			t.Errorf("Read of %.80x: %v, %d, %d, not %d, %d", c.s, b, at, e, c.at, c.e)
		}
	}
	if b, at, e := code.Read(nil); !zero(b) || at != 0 || e != api.ErrShort {
		t.Errorf("Read of nil: %v, %d, %d", b, at, e)
	}
}

// TestPrint is of P12.2: a line of locals, and instructions, two blanks ahead for each step that they are deep.
func TestPrint(t *testing.T) {
	for _, c := range []struct {
		locals, l string
		want      []string
	}{
		{"", "", nil},
		{"", ".", []string{"end"}},
		{"3", "", []string{"locals i32"}},
		{"336", ".", []string{"locals i32 i32 i64", "end"}},
		{"3\x05\xff", ".", []string{"locals i32 ? ?", "end"}},
		{strings.Repeat("6", 60), "n", []string{"locals" + strings.Repeat(" i64", 60), "nop"}},
		{"", "b..", []string{"block", "end", "end"}},
		{"6", "bnlc...", []string{"locals i64", "block", "  nop", "  loop i32", "    i32.const 7", "  end", "end", "end"}},
		{"", "icennb...n.", []string{"if i64", "  i32.const 7", "else", "  nop", "  nop", "  block", "  end", "end", "end", "nop", "end"}},
		{"", "iie.e..", []string{"if i64", "  if i64", "  else", "  end", "else", "end", "end"}},
		// What may not stand there.
		{"", "bbbn", []string{"block", "  block", "    block", "      nop"}},
		{"", "...n", []string{"end", "end", "end", "nop"}},
		{"", "enen.n", []string{"else", "  nop", "else", "  nop", "end", "nop"}},
		{"", "beben", []string{"block", "else", "  block", "  else", "    nop"}},
		{"", ".bn.nb", []string{"end", "block", "  nop", "end", "nop", "block"}},
		{"", "iee..", []string{"if i64", "else", "else", "end", "end"}},
		// What isn't right.
		{"", "w", []string{""}},
		{"", "bwbw..", []string{"block", "  ", "  block", "    ", "  end", "end"}},
	} {
		if got := code.Print(body(c.locals, c.l)); !slices.Equal(got, c.want) {
			t.Errorf("Print of %s, %s: %q, not %q", c.locals, c.l, got, c.want)
		}
	}
	lines := code.Print(code.Body{L: []instr.Instr{{Code: 2}, {Code: 4, A: 125}, {Code: 5, A: 1}, {Code: 1}, {Code: 11, B: 1}, {Code: 1}, {Code: 3, L: []uint64{1}}, {Code: 1}}})
	if !slices.Equal(lines, []string{"", "  ", "  ", "    nop", "  ", "  nop", "  ", "    nop"}) {
		t.Errorf("Print of blocks that aren't right: %q", lines)
	}
	if lines := code.Print(body("", deep(64, "n")+".")); len(lines) != 130 || lines[64] != strings.Repeat(" ", 128)+"nop" || lines[63] != strings.Repeat(" ", 126)+"block" || lines[65] != strings.Repeat(" ", 126)+"end" {
		t.Errorf("Print of deep blocks: %q", lines)
	}
}

// TestSame is of P12.2: the same locals, and instructions, in their order; no list is the same as one without elements.
func TestSame(t *testing.T) {
	all := []code.Body{{}, body("3", ""), body("6", ""), body("36", ""), body("63", ""), body("33", ""), body("\x00", ""), body("", "."), body("", "n"), body("", "n."), body("", ".n"), body("3", "."), body("3", "n."), body("6", "n."), body("", "b.."), body("", "l.."), body("", "w"), {L: []instr.Instr{{Code: 65, A: 8}}}, {L: []instr.Instr{{Code: 65, A: 7, B: 1}}}, {L: []instr.Instr{{Code: 14, L: []uint64{1}}}}, {L: []instr.Instr{{Code: 14, L: []uint64{2}}}}, {L: []instr.Instr{{Code: 14}}}}
	for i, a := range all {
		for j, b := range all {
			if code.Same(a, b) != (i == j) {
				t.Errorf("Same(%v, %v)", a, b)
			}
		}
		if !code.Same(a, code.Body{Locals: append([]api.Type{}, a.Locals...), L: append([]instr.Instr{}, a.L...)}) {
			t.Errorf("%v isn't as its copy", a)
		}
	}
	if !code.Same(code.Body{L: []instr.Instr{{Code: 14, L: []uint64{}}}}, code.Body{L: []instr.Instr{{Code: 14}}}) {
		t.Error("no list isn't as one without elements")
	}
}

// TestStays is of rule 4: what is handed in stays as it was, and what is answered is new.
func TestStays(t *testing.T) {
	const s = "\x02\x02\x7f\x01\x7e\x0e\x01\x02\x03\x02\x40\x0b\x0b"
	in := []byte(s)
	b, _, e := code.Read(in)
	other, _, _ := code.Read(in)
	if e != api.OK || string(in) != s {
		t.Fatalf("Read: %d, %x", e, in)
	}
	clear(in)
	room := append(slices.Clone(b.Locals), 9, 9)
	list := append(slices.Clone(b.L), instr.Instr{Code: 77}, instr.Instr{Code: 77})
	x := code.Body{Locals: room[:3], L: list[:4]}
	out, _ := x.Encode()
	spans, _, _ := code.Spans(x.L)
	code.Print(x)
	code.Deep(x.L)
	if string(out) != s || !slices.Equal(room, []api.Type{127, 127, 126, 9, 9}) || list[4].Code != 77 || list[5].Code != 77 || !is(x, b) {
		t.Errorf("Encode: %x, %v, %v", out, room, list)
	}
	clear(out)
	clear(spans)
	again, _ := x.Encode()
	if more, _, _ := code.Spans(x.L); string(again) != s || !slices.Equal(more, []code.Span{{1, -1, 2}}) {
		t.Errorf("what was answered was changed: %x, %v", again, more)
	}
	b.Locals[0], b.L[0].L[0], b.L[1].Code = 9, 9, 9
	if fresh, _, _ := code.Read([]byte(s)); !is(other, fresh) || other.L[0].L[0] != 2 {
		t.Errorf("what was answered shares memory: %v", other)
	}
}

// pieces are the bytes of things that may stand in a body, some of them wrong.
var pieces = []string{"\x00", "\x01", "\x02\x40", "\x03\x7f", "\x04\x7e", "\x04\x40", "\x05", "\x0b", "\x0b", "\x0b", "\x0c\x00", "\x0e\x01\x02\x03", "\x20\x81\x00", "\x28\x42\x01\x08", "\x41\x7f", "\x42\x80\x01", "\x6a", "\xfc\x0a\x00\x01", "\x06", "\xfd", "\x41", "\x02\x05"}

// slow reads a body by All and Spans: those of its beginnings that end behind a whole instruction.
func slow(b []byte) (code.Body, int, api.Errno) {
	out, at, runs, total := code.Body{}, 1, int(b[0]), 0
	for range runs {
		total += int(b[at])
		for range b[at] {
			out.Locals = append(out.Locals, api.Type(b[at+1]))
		}
		if total > 50 {
			return code.Body{}, at, api.ErrLong
		}
		at += 2
	}
	for at < len(b) {
		if _, _, e := code.Spans(out.L); e == api.OK {
			return code.Body{}, at, api.ErrForm
		}
		size, l, e := 1, []instr.Instr(nil), api.ErrShort
		for ; e == api.ErrShort && at+size <= len(b); size++ {
			l, _, e = instr.All(b[at : at+size])
		}
		if e != api.OK {
			return code.Body{}, at, e
		}
		out.L = append(out.L, l...)
		if _, n, e := code.Spans(out.L); e != api.OK && n < len(out.L) {
			return code.Body{}, at, e
		}
		at += size - 1
	}
	if _, _, e := code.Spans(out.L); e != api.OK {
		return code.Body{}, len(b), e
	}
	return out, 0, api.OK
}

// TestReadRows is of P12.2 and P12.3: rows of pieces, held against All and Spans; what is read is encoded, and read again.
func TestReadRows(t *testing.T) {
	seed, fine := uint64(9), 0
	next := func(n int) int {
		seed = seed*6364136223846793005 + 1442695040888963407
		return int(seed >> 33 % uint64(n))
	}
	for i := range 30000 {
		b := []byte{byte(next(4))}
		for range b[0] {
			b = append(b, byte(next(3)*next(26)), 126+byte(next(2)))
		}
		good := len(pieces) - 4*(i%2)
		for range next(12) {
			b = append(b, pieces[next(good)]...)
		}
		want, at, e := slow(b)
		got, at2, e2 := code.Read(b)
		if !is(got, want) || at2 != at || e2 != e || e != api.OK && !zero(got) {
			t.Fatalf("Read of %x: %v, %d, %d, not %v, %d, %d", b, got, at2, e2, want, at, e)
		}
		if e == api.OK {
			fine++
			again(t, got, b)
		}
	}
	if fine < 500 {
		t.Errorf("but %d rows can be read", fine)
	}
}

// again encodes what was read, and reads it.
func again(t *testing.T, b code.Body, from []byte) {
	t.Helper()
	out, e := b.Encode()
	got, at, e2 := code.Read(out)
	if e != api.OK || len(out) > len(from) || !is(got, b) || at != 0 || e2 != api.OK {
		t.Fatalf("%x is encoded as %x, %d, and read as %v, %d, %d", from, out, e, got, at, e2)
	}
	if twice, _ := got.Encode(); !bytes.Equal(twice, out) {
		t.Fatalf("%x is encoded as %x, and then as %x", from, out, twice)
	}
}
