package run_test

import (
	"bytes"
	"math"
	"testing"

	"grommet/api"
	"grommet/run"
)

const page = api.PageSize

// TestLoads is of the chapter's words: each load, of bytes whose highest bits are 1, and 0, and that an offset is added.
func TestLoads(t *testing.T) {
	const data = "; memory 1 1; data 0 8 x8081828384858687; data 0 16 x7f7e7d7c7b7a7978; data 0 65528 xf0f1f2f3f4f5f6f7"
	for _, c := range []struct {
		name, gives string
		size        uint64
		want        [3]uint64
	}{
		{"i32.load", "i32", 4, [3]uint64{0x83828180, 0x7c7d7e7f, 0xf7f6f5f4}},
		{"i64.load", "i64", 8, [3]uint64{0x8786858483828180, 0x78797a7b7c7d7e7f, 0xf7f6f5f4f3f2f1f0}},
		{"i32.load8_s", "i32", 1, [3]uint64{0xffffff80, 0x7f, 0xfffffff7}},
		{"i32.load8_u", "i32", 1, [3]uint64{0x80, 0x7f, 0xf7}},
		{"i32.load16_s", "i32", 2, [3]uint64{0xffff8180, 0x7e7f, 0xfffff7f6}},
		{"i32.load16_u", "i32", 2, [3]uint64{0x8180, 0x7e7f, 0xf7f6}},
		{"i64.load8_s", "i64", 1, [3]uint64{0xffffffffffffff80, 0x7f, 0xfffffffffffffff7}},
		{"i64.load8_u", "i64", 1, [3]uint64{0x80, 0x7f, 0xf7}},
		{"i64.load16_s", "i64", 2, [3]uint64{0xffffffffffff8180, 0x7e7f, 0xfffffffffffff7f6}},
		{"i64.load16_u", "i64", 2, [3]uint64{0x8180, 0x7e7f, 0xf7f6}},
		{"i64.load32_s", "i64", 4, [3]uint64{0xffffffff83828180, 0x7c7d7e7f, 0xfffffffff7f6f5f4}},
		{"i64.load32_u", "i64", 4, [3]uint64{0x83828180, 0x7c7d7e7f, 0xf7f6f5f4}},
	} {
		for _, offset := range []string{"0", "3"} {
			off := map[string]uint64{"3": 3}[offset]
			sig := "(i32)->(" + c.gives + ")"
			body := "local.get 0; " + c.name + " 0 " + offset + " 0; end"
			asks(t, data,
				asked{sig, body, of(8 - off), done(c.want[0]), 3},
				asked{sig, body, of(16 - off), done(c.want[1]), 3},
				asked{sig, body, of(page - c.size - off), done(c.want[2]), 3},
				asked{sig, body, of(page - c.size - off + 1), trapped(api.Bounds), 2},
				asked{sig, body, of(page), trapped(api.Bounds), 2},
				asked{sig, body, of(math.MaxUint32), trapped(api.Bounds), 2},
			)
		}
	}
}

// TestStores is of the chapter's words: each store puts the low bytes, and no others.
func TestStores(t *testing.T) {
	for _, c := range []struct {
		name, takes string
		size        uint64
	}{
		{"i32.store", "i32", 4}, {"i64.store", "i64", 8}, {"i32.store8", "i32", 1}, {"i32.store16", "i32", 2},
		{"i64.store8", "i64", 1}, {"i64.store16", "i64", 2}, {"i64.store32", "i64", 4},
	} {
		m := lines(t, "sig (i32,"+c.takes+")->(); func 0; local.get 0; local.get 1; "+c.name+" 0 5 0; end; memory 1 1")
		d := paged(t, m, 10000, 2, 1100)
		r := d.made(t, ample)
		mem, _ := d.state.Memory(0)
		for _, at := range []uint64{0, 59, 1000, page - 5 - c.size} {
			mem.Fill(0, 9, page)
			calls(t, r, done(), 0, at, 0x8877665544332211)
			want := bytes.Repeat([]byte{9}, page)
			copy(want[at+5:], []byte{0x11, 0x22, 0x33, 0x44, 0x55, 0x66, 0x77, 0x88}[:c.size])
			if b, _, e := mem.Load(0, 0, page); !bytes.Equal(b, want) || e != api.OK {
				t.Errorf("%s at %d: other bytes", c.name, at)
			}
		}
		was, _, _ := mem.Load(0, 0, page)
		for _, at := range []uint64{page - 4 - c.size, page - 5, page, math.MaxUint32} {
			calls(t, r, trapped(api.Bounds), 0, at, 5)
		}
		if b, _, _ := mem.Load(0, 0, page); !bytes.Equal(b, was) {
			t.Errorf("%s: other bytes behind a trap", c.name)
		}
	}
}

// TestMemories is of the chapter's words: which memory is asked, and addresses of 64 bits.
func TestMemories(t *testing.T) {
	const mems = "; memory 1 1; memory 1 1 i64; memory 1 1; data 0 7 x01; data 1 7 x02; data 2 7 x03"
	asks(t, mems,
		asked{"()->(i32)", "i32.const 4; i32.load8_u 0 3 0; end", nil, done(1), 3},
		asked{"()->(i32)", "i64.const 4; i32.load8_u 1 3 0; end", nil, done(2), 3},
		asked{"()->(i32)", "i32.const 4; i32.load8_u 2 3 0; end", nil, done(3), 3},
		asked{"(i64)->(i32)", "local.get 0; i32.load8_u 1 0 0; end", of(1<<32 + 7), trapped(api.Bounds), 2},
		asked{"(i64)->(i32)", "local.get 0; i32.load8_u 1 8 0; end", of(math.MaxUint64), trapped(api.Bounds), 2},
		asked{"(i32)->(i32)", "local.get 0; i32.load8_u 0 8 0; end", of(math.MaxUint32), trapped(api.Bounds), 2},
		asked{"(i32)->(i32)", "local.get 0; i32.load8_u 0 4294967295 0; end", of(8), trapped(api.Bounds), 2},
		asked{"(i64)->(i32)", "local.get 0; i32.load8_u 1 18446744073709551615 0; end", of(8), trapped(api.Bounds), 2},
		asked{"()->(i32,i32,i32)", "i32.const 7; i32.const 8; i32.store8 2 0 0; i32.const 7; i32.load8_u 0 0 0; i64.const 7; i32.load8_u 1 0 0; i32.const 7; i32.load8_u 2 0 0; end", nil, done(1, 2, 8), 10},
		asked{"()->(i32,i32,i32)", "i64.const 7; i32.const 8; i32.store8 1 0 0; i32.const 7; i32.load8_u 0 0 0; i64.const 7; i32.load8_u 1 0 0; i32.const 7; i32.load8_u 2 0 0; end", nil, done(1, 8, 3), 10},
	)
}

// TestGrow is of the chapter's words: how many pages there were, or all bits 1 of its type.
func TestGrow(t *testing.T) {
	const mems = "; memory 1 3; memory 2 4 i64; memory 3 -; memory 4 - i64"
	asks(t, mems,
		asked{"()->(i32,i64,i32,i64)", "memory.size 0; memory.size 1; memory.size 2; memory.size 3; end", nil, done(1, 2, 3, 4), 5},
		asked{"(i32)->(i32)", "local.get 0; memory.grow 0; end", of(0), done(1), 3},
		asked{"(i32)->(i32)", "local.get 0; memory.grow 0; end", of(3), done(math.MaxUint32), 3},
		asked{"(i32)->(i32)", "local.get 0; memory.grow 0; end", of(math.MaxUint32), done(math.MaxUint32), 3},
		asked{"(i32)->(i32)", "local.get 0; memory.grow 2; end", of(65534), done(math.MaxUint32), 3},
		asked{"(i64)->(i64)", "local.get 0; memory.grow 1; end", of(0), done(2), 3},
		asked{"(i64)->(i64)", "local.get 0; memory.grow 1; end", of(3), done(math.MaxUint64), 3},
		asked{"(i64)->(i64)", "local.get 0; memory.grow 1; end", of(1 << 32), done(math.MaxUint64), 3},
		asked{"(i64)->(i64)", "local.get 0; memory.grow 1; end", of(math.MaxUint64), done(math.MaxUint64), 3},
		asked{"(i64)->(i64)", "local.get 0; memory.grow 3; end", of(65533), done(math.MaxUint64), 3},
	)
	r := machine(t, "sig (i32)->(i32); sig (i64)->(i64); func 0; local.get 0; memory.grow 0; drop; memory.size 0; end; func 1; local.get 0; memory.grow 1; drop; memory.size 1; end; func 0; local.get 0; memory.grow 2; end; func 0; local.get 0; i32.load8_u 0 0 0; end"+mems, ample)
	calls(t, r, trapped(api.Bounds), 3, page)
	calls(t, r, done(2), 0, 1)
	calls(t, r, done(0), 3, page)
	calls(t, r, done(2), 0, 2)
	calls(t, r, done(3), 0, 1)
	calls(t, r, done(4), 1, 2)
	calls(t, r, done(4), 1, 1)
	calls(t, r, done(3), 2, 65533)
	calls(t, r, done(65536), 2, 0)
	calls(t, r, done(math.MaxUint32), 2, 1)
}

// TestFill is of the chapter's words: what is filled, by what, and for how much.
func TestFill(t *testing.T) {
	const body = "local.get 0; local.get 1; local.get 2; memory.fill 0; local.get 3; i32.load8_u 0 0 0; end"
	const sig = "(i32,i32,i32,i32)->(i32)"
	asks(t, "; memory 1 1",
		asked{sig, body, of(10, 0x1ff, 3, 9), done(0), 7},
		asked{sig, body, of(10, 0x1ff, 3, 10), done(255), 7},
		asked{sig, body, of(10, 0x1fe, 3, 12), done(254), 7},
		asked{sig, body, of(10, 0x1ff, 3, 13), done(0), 7},
		asked{sig, body, of(10, 5, 0, 10), done(0), 7},
		asked{sig, body, of(page, 5, 0, 10), done(0), 7},
		asked{sig, body, of(0, 5, 63, 62), done(5), 7},
		asked{sig, body, of(0, 5, 64, 63), done(5), 8},
		asked{sig, body, of(0, 5, 127, 126), done(5), 8},
		asked{sig, body, of(0, 5, 128, 127), done(5), 9},
		asked{sig, body, of(page-640, 5, 640, page-1), done(5), 17},
		asked{sig, body, of(page-639, 5, 640, page-1), trapped(api.Bounds), 14},
		asked{sig, body, of(page+1, 5, 0, page-1), trapped(api.Bounds), 4},
		asked{sig, body, of(math.MaxUint32, 5, 0, page-1), trapped(api.Bounds), 4},
	)
}

// TestCopy is of the chapter's words: from the second memory to the first one, and for how much.
func TestCopy(t *testing.T) {
	const (
		sig  = "(i32,i32,i32,i32)->(i32)"
		one  = "local.get 0; local.get 1; local.get 2; memory.copy 0 0; local.get 3; i32.load 0 0 0; end"
		to   = "local.get 0; local.get 1; local.get 2; memory.copy 0 1; local.get 3; i32.load 0 0 0; end"
		back = "local.get 0; local.get 1; local.get 2; memory.copy 1 0; local.get 3; i32.load 1 0 0; end"
	)
	asks(t, "; memory 1 1; memory 2 2; data 0 8 x0102030405060708; data 1 8 x1112131415161718; data 1 131068 x21222324",
		asked{sig, one, of(20, 8, 4, 20), done(0x04030201), 7},
		asked{sig, one, of(9, 8, 4, 8), done(0x03020101), 7},
		asked{sig, one, of(8, 9, 4, 8), done(0x05040302), 7},
		asked{sig, one, of(20, 8, 0, 20), done(0), 7},
		asked{sig, one, of(20, 8, 63, 20), done(0x04030201), 7},
		asked{sig, one, of(20, 8, 64, 20), done(0x04030201), 8},
		asked{sig, one, of(20, 8, 6400, 20), done(0x04030201), 107},
		asked{sig, one, of(page, page, 0, 8), done(0x04030201), 7},
		asked{sig, one, of(page+1, 0, 0, 8), trapped(api.Bounds), 4},
		asked{sig, one, of(0, page+1, 0, 8), trapped(api.Bounds), 4},
		asked{sig, one, of(page-3, 0, 4, 8), trapped(api.Bounds), 4},
		asked{sig, one, of(0, page-639, 640, 8), trapped(api.Bounds), 14},
		asked{sig, to, of(page-4, 131068, 4, page-4), done(0x24232221), 7},
		asked{sig, to, of(0, 8, 4, 0), done(0x14131211), 7},
		asked{sig, to, of(page, 131072, 0, 8), done(0x04030201), 7},
		asked{sig, to, of(page-3, 8, 4, 8), trapped(api.Bounds), 4},
		asked{sig, to, of(0, 131069, 4, 8), trapped(api.Bounds), 4},
		asked{sig, back, of(131068, 8, 4, 131068), done(0x04030201), 7},
		asked{sig, back, of(131068, 8, 4, 8), done(0x14131211), 7},
		asked{sig, back, of(131069, 8, 4, 8), trapped(api.Bounds), 4},
		asked{sig, back, of(0, page-3, 4, 8), trapped(api.Bounds), 4},
	)
}

// TestBulkWide is of the chapter's words, and chapter 16's: both bulk instructions, with addresses of 64 bits.
func TestBulkWide(t *testing.T) {
	const mems = "; memory 1 1 i64; memory 1 1; memory 1 1 i64; data 0 8 x0102030405060708; data 1 8 x1112131415161718; data 2 8 x2122232425262728"
	const (
		fill = "local.get 0; i32.const 7; local.get 1; memory.fill 0; i64.const 8; i32.load 0 0 0; end"
		both = "local.get 0; i64.const 8; local.get 1; memory.copy 0 2; i64.const 20; i32.load 0 0 0; end"
		wide = "local.get 0; i32.const 8; local.get 1; i32.wrap_i64; memory.copy 0 1; i64.const 20; i32.load 0 0 0; end"
		slim = "local.get 0; i32.wrap_i64; i64.const 8; local.get 1; i32.wrap_i64; memory.copy 1 0; i32.const 20; i32.load 1 0 0; end"
	)
	const sig = "(i64,i64)->(i32)"
	asks(t, mems,
		asked{sig, fill, of(10, 1), done(0x04070201), 7},
		asked{sig, fill, of(1<<32+10, 1), trapped(api.Bounds), 4},
		asked{sig, fill, of(math.MaxUint64, 0), trapped(api.Bounds), 4},
		asked{sig, both, of(20, 2), done(0x2221), 7},
		asked{sig, both, of(1<<32, 0), trapped(api.Bounds), 4},
		asked{sig, both, of(0, 65528/2), done(0), 7 + 65528/128},
		asked{sig, both, of(60000, 6000), trapped(api.Bounds), 4 + 6000/64},
		asked{sig, wide, of(20, 3), done(0x131211), 8},
		asked{sig, wide, of(1<<32+20, 3), trapped(api.Bounds), 5},
		asked{sig, wide, of(20, 1<<32+1), done(0x11), 8},
		asked{sig, slim, of(1<<32+20, 1<<32+3), done(0x030201), 9},
	)
}

// TestFuelBulk is of the chapter's words: with less fuel than bytes need nothing is done, nothing is taken, and it isn't asked whether these are there.
func TestFuelBulk(t *testing.T) {
	for _, x := range []string{"memory.fill 0", "memory.copy 0 0"} {
		for _, c := range []struct {
			n        uint64
			fuel     int
			want     run.Outcome
			left     int
			last, at uint64
		}{
			{6400, 103, failed(api.ErrFuel), 100, 6, 0},
			{6400, 104, failed(api.ErrFuel), 0, 7, 0},
			{6400, 105, done(), 0, 7, 0},
			{6463, 105, done(), 0, 7, 0},
			{6464, 104, failed(api.ErrFuel), 101, 6, 0},
			{6464, 105, failed(api.ErrFuel), 0, 7, 0},
			{6464, 106, done(), 0, 7, 0},
			{6464, 3, failed(api.ErrFuel), 0, 6, 0},
			{6464, 2, failed(api.ErrFuel), 0, 6, 0},
			{math.MaxUint32, 1000000, failed(api.ErrFuel), 1000000 - 3, 6, 0},
			{6400, 103, failed(api.ErrFuel), 100, 6, page},
			{6400, 104, trapped(api.Bounds), 0, 6, page},
		} {
			m := lines(t, "sig (i32,i32,i32)->(); func 0; local.get 0; local.get 1; local.get 2; "+x+"; end; memory 1 1; data 0 6399 x06; data 0 16384 x07")
			d := paged(t, m, 10000, 2, 300)
			r := d.made(t, run.Config{Cells: 10, Frames: 1, Fuel: c.fuel})
			from := uint64(7)
			if x != "memory.fill 0" {
				from = 9985
			}
			calls(t, r, c.want, 0, c.at, from, c.n)
			mem, _ := d.state.Memory(0)
			if b, _, _ := mem.Load(6399, 0, 1); r.Fuel() != c.left || r.Spent() != c.fuel-c.left || uint64(b[0]) != c.last {
				t.Errorf("%s of %d, with %d: %d is left, %d was spent; the last byte is %d", x, c.n, c.fuel, r.Fuel(), r.Spent(), b[0])
			}
		}
	}
	// As great a number as there is, of a memory whose addresses have 64 bits.
	r := machine(t, "sig ()->(); func 0; i64.const 0; i32.const 0; i64.const -1; memory.fill 0; end; memory 1 1 i64", run.Config{Cells: 10, Frames: 1, Fuel: 10000000})
	calls(t, r, failed(api.ErrFuel), 0)
	if r.Spent() != 3 {
		t.Errorf("%d was spent", r.Spent())
	}
}

// TestLong is of the chapter's words: it fails by the errors of memories; of more bytes than may be moved at once, if they are there.
func TestLong(t *testing.T) {
	for _, c := range []struct {
		x    string
		n    uint64
		want run.Outcome
	}{
		{"memory.fill 0", 1 << 20, done()},
		{"memory.fill 0", 1<<20 + 1, failed(api.ErrLong)},
		{"memory.copy 0 0", 1 << 20, done()},
		{"memory.copy 0 0", 1<<20 + 1, failed(api.ErrLong)},
		{"memory.fill 0", 17*page + 1, trapped(api.Bounds)},
		{"memory.copy 0 0", 17*page + 1, trapped(api.Bounds)},
	} {
		fuel := 4 + int(c.n)/64
		r := machine(t, "sig (i32)->(); func 0; i32.const 0; i32.const 0; local.get 0; "+c.x+"; end; memory 17 17", run.Config{Cells: 10, Frames: 1, Fuel: fuel + 1})
		calls(t, r, c.want, 0, c.n)
		if spent := r.Spent(); spent != fuel && c.want.Kind != run.Done || spent != fuel+1 && c.want.Kind == run.Done {
			t.Errorf("%s of %d: %d was spent", c.x, c.n, spent)
		}
	}
}

// TestFault is of the chapter's words: whichever operation of the store fails, or finds no block, up to there all is as without it, and the machine is broken by that.
func TestFault(t *testing.T) {
	const s = "sig (i32)->(i32); func 0; local.get 0; i32.const 7; i32.store8 0 0 0; local.get 0; i32.const 64; i32.add; i32.const 8; i32.store8 0 0 0; local.get 0; i32.load8_u 0 0 0; i32.const 64; local.get 0; i32.const 3; memory.copy 0 0; i32.const 0; i32.const 9; i32.const 640; memory.fill 0; end; memory 1 1; global i32 var 0"
	m := lines(t, s)
	d := paged(t, m, 10000, 1, 20)
	calls(t, d.made(t, ample), done(7), 0, 1000)
	ops := d.store.Ops()
	if ops < 12 {
		t.Fatalf("%d operations", ops)
	}
	last := 0
	for n := range ops + 1 {
		d := paged(t, m, 10000, 1, 20)
		r := d.made(t, ample)
		d.store.FailAt(n)
		if n == ops {
			calls(t, r, done(7), 0, 1000)
			break
		}
		calls(t, r, failed(api.ErrFault), 0, 1000)
		if d.store.Ops() != n+1 || r.Spent() < last {
			t.Errorf("%d operations; %d was spent, behind %d", d.store.Ops(), r.Spent(), last)
		}
		last = r.Spent()
		refuses(t, r, api.ErrState, 0, 1000)
		if e := r.Close(); e != api.OK || d.arena.Live() != 0 || r.Fault() != api.ErrFault {
			t.Errorf("Close: %d", e)
		}
	}
	enough := d.store.Peak()
	for blocks := range enough + 1 {
		d := paged(t, m, 10000, 1, blocks)
		want := failed(api.ErrFull)
		if blocks == enough {
			want = done(7)
		}
		calls(t, d.made(t, ample), want, 0, 1000)
	}
	// A pager that is closed, or was broken by someone else, answers nothing.
	d = paged(t, m, 10000, 1, 20)
	r := d.made(t, ample)
	d.pager.Close()
	calls(t, r, failed(api.ErrState), 0, 1000)
	if r.Spent() != 3 || r.Fault() != api.ErrState {
		t.Errorf("%d was spent, Fault %d", r.Spent(), r.Fault())
	}
}

// TestOther is of the rules: a machine that doesn't ask a broken pager goes on.
func TestOther(t *testing.T) {
	d := paged(t, lines(t, "sig (i32)->(i32); func 0; local.get 0; if i32; i32.const 0; i32.load 0 0 0; else; i32.const 0; memory.grow 0; end; end; memory 1 1"), 10000, 1, 20)
	one, other := d.made(t, ample), d.made(t, ample)
	d.pager.Close()
	calls(t, one, done(1), 0, 0)
	calls(t, one, failed(api.ErrState), 0, 1)
	refuses(t, one, api.ErrState, 0, 0)
	calls(t, other, done(1), 0, 0)
}
