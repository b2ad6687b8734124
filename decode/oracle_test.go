package decode_test

import (
	"strings"
	"testing"

	"grommet/api"
	"grommet/code"
	"grommet/decode"
	"grommet/leb"
	"grommet/module"
	"grommet/types"
)

// slow is bytes that are left of a row, and panics with what can't be read.
type slow struct {
	b []byte
}

func form(holds bool) {
	if !holds {
		panic(api.ErrForm)
	}
}

func (s *slow) take(n uint64) []byte {
	form(n <= uint64(len(s.b)))
	out := s.b[:n]
	s.b = s.b[n:]
	return out
}

func (s *slow) one(of string) byte {
	c := s.take(1)[0]
	form(strings.IndexByte(of, c) >= 0)
	return c
}

func (s *slow) number(bits int) uint64 {
	n, size, e := leb.Unsigned(s.b, bits)
	form(e == api.OK)
	s.take(uint64(size))
	return n
}

func (s *slow) sized() []byte { return s.take(s.number(32)) }

func (s *slow) word(of string) uint64 {
	bits := 32 * int(s.one(of)-'@')
	n, size, e := leb.Signed(s.b, bits)
	form(e == api.OK)
	s.take(uint64(size))
	s.one("\x0b")
	return uint64(n) << (64 - bits) >> (64 - bits)
}

func (s *slow) types() []api.Type {
	l := []api.Type(string(s.sized()))
	for _, t := range l {
		form(t == 126 || t == 127)
	}
	return l
}

// cap32 is a number of pages as it counts.
func cap32(n uint64) int {
	if n > 1<<32 {
		return 1 << 32
	}
	return int(n)
}

// thing reads a thing of a section.
func (s *slow) thing(number byte, m *module.Module, bodies *[]code.Body) {
	switch number {
	case 1:
		s.one("\x60")
		params := s.types()
		m.Sigs = append(m.Sigs, types.Sig{Params: params, Results: s.types()})
	case 2:
		x := module.Import{Module: string(s.sized())}
		x.Name = string(s.sized())
		s.one("\x00")
		x.Sig = int(s.number(32))
		m.Imports = append(m.Imports, x)
	case 3:
		m.Funcs = append(m.Funcs, module.Func{Sig: int(s.number(32))})
	case 4:
		form(m.Table < 0)
		s.one("\x70")
		s.one("\x00")
		m.Table = int(s.number(32))
	case 5:
		kind, l := s.one("\x00\x01\x04\x05"), types.Limits{Max: -1}
		bits := 32 + 8*int(kind&4)
		l.Wide = bits == 64
		l.Min = cap32(s.number(bits))
		if kind%2 == 1 {
			l.Max = cap32(s.number(bits))
		}
		m.Mems = append(m.Mems, l)
	case 6:
		x := module.Global{Type: api.Type(s.one("\x7e\x7f"))}
		x.Mutable = s.one("\x00\x01") == 1
		x.Value = s.word(map[api.Type]string{api.I32: "A", api.I64: "B"}[x.Type])
		m.Globals = append(m.Globals, x)
	case 7:
		x := module.Export{Name: string(s.sized())}
		x.Kind = int(s.one("\x00\x01\x02\x03"))
		x.Index = int(s.number(32))
		m.Exports = append(m.Exports, x)
	case 8:
		m.Start = int(s.number(32))
	case 9:
		s.one("\x00")
		x := module.Elem{At: s.word("A")}
		for n := s.number(32); n > 0; n-- {
			x.Funcs = append(x.Funcs, int(s.number(32)))
		}
		m.Elems = append(m.Elems, x)
	case 10:
		b, _, e := code.Read(s.sized())
		if e == api.ErrProfile || e == api.ErrLong {
			panic(e)
		}
		form(e == api.OK)
		*bodies = append(*bodies, b)
	case 11:
		var x module.Data
		if s.one("\x00\x02") == 2 {
			x.Mem = int(s.number(32))
		}
		x.At = s.word("AB")
		x.Bytes = s.sized()
		m.Datas = append(m.Datas, x)
	}
}

// slowly reads a module.
func slowly(b []byte) (m *module.Module, place int, err api.Errno) {
	defer func() {
		if e, ok := recover().(api.Errno); ok {
			m, err = nil, e
		}
	}()
	s := slow{b}
	form(string(s.take(8)) == head)
	m = module.Empty()
	var bodies []code.Body
	last := byte(0)
	for len(s.b) > 0 {
		place = len(b) - len(s.b)
		number := s.take(1)[0]
		part := slow{s.sized()}
		if number == 0 {
			continue
		}
		form(number > last && number < 12)
		last = number
		n := uint64(1)
		if number != 8 {
			n = part.number(32)
		}
		for ; n > 0; n-- {
			part.thing(number, m, &bodies)
		}
		form(len(part.b) == 0)
	}
	place = len(b)
	form(len(bodies) == len(m.Funcs))
	for i, x := range bodies {
		m.Funcs[i].Body = x
	}
	return m, 0, api.OK
}

// held holds Bytes against the slow reader, and answers what was read.
func held(t *testing.T, b []byte) *module.Module {
	t.Helper()
	want, place, err := slowly(b)
	m, at, e := decode.Bytes(b)
	if at != place || e != err || !same(m, want) {
		t.Fatalf("Bytes of %x: %+v, %d, %d, not %+v, %d, %d", b, m, at, e, want, place, err)
	}
	return m
}

// TestDecodeNear is of P14.2: all bytes that are one byte, or two that stand together, from a module's.
func TestDecodeNear(t *testing.T) {
	all := head + strings.Join(someSections(), sec(0, "x"))
	fine := 0
	try := func(parts ...string) {
		if m := held(t, []byte(strings.Join(parts, ""))); m != nil {
			fine++
		}
	}
	for i := range all {
		try(all[:i])
		try(all[:i], all[i+1:])
		for c := range 256 {
			try(all[:i], string([]byte{byte(c)}), all[i:])
			try(all[:i], string([]byte{byte(c)}), all[i+1:])
		}
		for _, s := range []string{"\x80\x00", "\x00\x00", "\x01\x00", "\xff\x7f", "\x7e\x42", "\x7f\x41", "\x0b\x0b", "\x41\x00"} {
			try(all[:i], s, all[i:])
			try(all[:i], s, all[i+1:])
			try(all[:i], s, all[min(i+2, len(all)):])
		}
	}
	if fine < 1000 {
		t.Errorf("but %d are modules", fine)
	}
}

// pieces are bytes that may stand in sections, most of them things.
func pieces() [][]string {
	return [][]string{
		{"\x00", "\x01", "\x02", "\x7f", "\x80\x00", "\xff\xff\xff\xff\x0f", "\x0b", "\x41\x00\x0b", "abc", "\x40", "\x60\x00"},
		{"\x60\x00\x00", "\x60\x01\x7f\x00", "\x60\x00\x81\x00\x7e", "\x60\x02\x7e\x7f\x01\x7f", "\x60\x01\x7d\x00"},
		{"\x01a\x01b\x00\x00", "\x00\x80\x00\x00\x81\x00", "\x01a\x01b\x01\x00", "\x03abc\x01!\x00\x05"},
		{"\x00", "\x01", "\x80\x01", "\x02"},
		{"\x70\x00\x05", "\x70\x00\x80\x08", "\x70\x01\x01\x02", "\x6f\x00\x01"},
		{"\x00\x01", "\x01\x01\x02", "\x04\x00", "\x05\x80\x00\xff\xff\xff\xff\xff\x01", "\x03\x00\x01"},
		{"\x7f\x00\x41\x07\x0b", "\x7e\x01\x42\x80\x7f\x0b", "\x7f\x01\x42\x00\x0b", "\x7e\x00\x41\x00\x0b", "\x7f\x02\x41\x00\x0b"},
		{"\x01f\x00\x00", "\x02ab\x01\x00", "\x01m\x02\x80\x00", "\x01g\x03\x7f", "\x01x\x04\x00"},
		{"\x00", "\x05", "\x80\x00"},
		{"\x00\x41\x00\x0b\x00", "\x00\x41\x7f\x0b\x02\x00\x01", "\x00\x42\x00\x0b\x00", "\x01\x00\x00"},
		{"\x02\x00\x0b", "\x05\x01\x01\x7f\x01\x0b", "\x06\x00\x02\x40\x01\x0b\x0b", "\x02\x00\x06", "\x04\x00\xfd\x00\x0b", "\x04\x01\x33\x7f\x0b", "\x02\x01\x0b"},
		{"\x00\x41\x00\x0b\x00", "\x00\x41\x7f\x0b\x02ab", "\x02\x01\x42\x7f\x0b\x01c", "\x02\x00\x41\x01\x0b\x00", "\x01\x02ab"},
	}
}

// TestDecodeRows is of P14.2 and P14.3: rows of pieces, held against the slow reader; what is read and fit is encoded, and read again.
func TestDecodeRows(t *testing.T) {
	seed, fine, fit, kinds := uint64(5), 0, 0, map[api.Errno]int{}
	next := func(n int) int {
		seed = seed*6364136223846793005 + 1442695040888963407
		return int(seed >> 33 % uint64(n))
	}
	all := pieces()
	for range 60000 {
		row := head
		for number := 1; number < 12; number++ {
			if next(3) == 0 && number != 3 && number != 10 || next(40) == 0 {
				continue
			}
			if next(60) == 0 {
				number = next(12)
			}
			n := next(3)
			switch {
			case number == 3 || number == 10:
				n = 1 + next(5)/4
			case number == 4 || number == 8:
				n = 1
			}
			s := string([]byte{byte(n)})
			if number == 8 {
				s = ""
			}
			for range n {
				k, most := number, 2
				if next(30) == 0 {
					most = len(all[number])
				}
				if next(200) == 0 {
					k, most = 0, len(all[0])
				}
				s += all[k][next(most)]
			}
			row += sec(byte(number), s)
			if next(10) == 0 {
				row += sec(0, all[0][next(len(all[0]))])
			}
		}
		m := held(t, []byte(row))
		_, _, e := decode.Bytes([]byte(row))
		kinds[e]++
		if m != nil {
			fine++
			fit += again(t, m, row)
		}
	}
	if fine < 5000 || fit < 500 || kinds[api.ErrProfile] < 50 || kinds[api.ErrLong] < 50 || kinds[api.ErrForm] < 5000 {
		t.Errorf("but %d are modules, %d of them fit, %v", fine, fit, kinds)
	}
}

// again encodes what was read, if it is fit, and reads it; it answers 1 of what is fit.
func again(t *testing.T, m *module.Module, from string) int {
	t.Helper()
	b, e := decode.Encode(m)
	if _, e2 := m.Fit(); e != e2 || e != api.OK && b != nil {
		t.Fatalf("Encode of %x: %x, %d, not %d", from, b, e, e2)
	}
	if e != api.OK {
		return 0
	}
	// An address of 64 bits may have been told by a Const of I32, which is up to 5 bytes less.
	most := len(from)
	for _, d := range m.Datas {
		if m.Mems[d.Mem].Wide {
			most += 5
		}
	}
	x, at, e := decode.Bytes(b)
	if len(b) > most || !same(x, m) || at != 0 || e != api.OK {
		t.Fatalf("%x is encoded as %x, and read as %+v, %d, %d", from, b, x, at, e)
	}
	if more, _ := decode.Encode(x); string(more) != string(b) {
		t.Fatalf("%x is encoded as %x, and then as %x", from, b, more)
	}
	return 1
}
