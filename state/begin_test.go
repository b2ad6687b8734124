package state_test

import (
	"bytes"
	"testing"

	"grommet/api"
	"grommet/module"
	"grommet/state"
)

// TestElems is of the chapter's words: elements, one by one, up to the first one that doesn't fit into the table; data isn't put behind that.
func TestElems(t *testing.T) {
	for _, c := range []struct {
		lines string
		trap  api.Trap
		want  []int
	}{
		{"table 3", 0, []int{-1, -1, -1}},
		{"table 3; elem 0", 0, []int{-1, -1, -1}},
		{"table 3; elem 3", 0, []int{-1, -1, -1}},
		{"table 3; elem 4", api.Undefined, []int{-1, -1, -1}},
		{"table 3; elem 0 1 2 3", 0, []int{1, 2, 3}},
		{"table 3; elem 0 0 0 0", 0, []int{0, 0, 0}},
		{"table 3; elem 0 1 2 3 0", api.Undefined, []int{-1, -1, -1}},
		{"table 3; elem 1 1 2 3", api.Undefined, []int{-1, -1, -1}},
		{"table 3; elem 1 1 2", 0, []int{-1, 1, 2}},
		{"table 3; elem 2 0", 0, []int{-1, -1, 0}},
		{"table 3; elem 3 0", api.Undefined, []int{-1, -1, -1}},
		{"table 3; elem 4294967295 1", api.Undefined, []int{-1, -1, -1}},
		{"table 3; elem 4294967295", api.Undefined, []int{-1, -1, -1}},
		{"table 3; elem 0 1 2; elem 1 3 0", 0, []int{1, 3, 0}},
		{"table 3; elem 1 3 0; elem 0 1 2", 0, []int{1, 2, 0}},
		{"table 3; elem 1 3; elem 3 1; elem 0 2", api.Undefined, []int{-1, 3, -1}},
		{"table 3; elem 1 3; elem 2 1 1; elem 0 2", api.Undefined, []int{-1, 3, -1}},
		{"table 3; elem 1 3; elem 4; elem 0 2", api.Undefined, []int{-1, 3, -1}},
		{"table 3; elem 1 3; elem 3; elem 0 2", 0, []int{2, 3, -1}},
		{"table 3; elem 1 3; elem 1 1; elem 2 2; elem 4; elem 9 9", api.Undefined, []int{-1, 1, 2}},
		{"table 0; elem 0", 0, nil},
		{"table 0; elem 1", api.Undefined, nil},
		{"table 0; elem 0 0", api.Undefined, nil},
		{"table 1; elem 0 0 0 0 0 0 0 0 0 0 0 0 0 0 0 0 0 0 0 0 0", api.Undefined, []int{-1}},
		{"table 20; elem 0 0 0 0 0 0 0 0 0 0 0 0 0 0 0 0 0 0 0 0 0", 0, make([]int, 20)},
	} {
		d := roomy(t)
		source := some + "func 0; end; func 0; end; func 0; end; func 0; end; func 0; end; func 0; end; " + c.lines
		parts := bytes.Split([]byte(source), []byte("; elem"))
		parts[0] = append(parts[0], "; memory 1 1; global i32 var 4"...)
		s, trap := d.begun(t, string(bytes.Join(parts, []byte("; elem")))+"; data 0 5 x07", 0)
		if trap != c.trap {
			t.Errorf("%q: %d, not %d", c.lines, trap, c.trap)
		}
		table(t, s, c.want...)
		globals(t, s, 4)
		pages(t, s, 1)
		if trap != api.NoTrap {
			if d.pager.Resident() != 0 || d.store.Ops() != 0 {
				t.Errorf("%q: data was put", c.lines)
			}
			loads(t, s, 0, 4, 0, 0)
		} else {
			loads(t, s, 0, 4, 0, 7)
		}
	}
}

// TestDatas is of the chapter's words, and of P21.3: data, one by one, up to the first that is beyond its memory.
func TestDatas(t *testing.T) {
	for _, c := range []struct {
		lines string
		trap  api.Trap
		at    uint64
		want  []byte
	}{
		{"memory 1 1; data 0 0 x0102", 0, 0, []byte{1, 2, 0}},
		{"memory 1 1; data 0 65534 x0102", 0, 65533, []byte{0, 1, 2}},
		{"memory 1 1; data 0 65535 x0102", api.Bounds, 65534, []byte{0, 0}},
		{"memory 1 1; data 0 65535 x01", 0, 65534, []byte{0, 1}},
		{"memory 1 1; data 0 65536 x01", api.Bounds, 65534, []byte{0, 0}},
		{"memory 1 1; data 0 65536 x", 0, 65534, []byte{0, 0}},
		{"memory 1 1; data 0 65537 x", api.Bounds, 65534, []byte{0, 0}},
		{"memory 1 9; data 0 65536 x01", api.Bounds, 65534, []byte{0, 0}},
		{"memory 2 -; data 0 65535 x0102", 0, 65534, []byte{0, 1, 2, 0}},
		{"memory 0 -; data 0 0 x", 0, 0, nil},
		{"memory 0 -; data 0 1 x", api.Bounds, 0, nil},
		{"memory 0 -; data 0 0 x00", api.Bounds, 0, nil},
		{"memory 1 1; data 0 4294967295 x", api.Bounds, 0, []byte{0}},
		{"memory 1 1; data 0 4294967295 x0102", api.Bounds, 0, []byte{0, 0}},
		{"memory 65536 -; data 0 4294967295 x05", 0, 4294967294, []byte{0, 5}},
		{"memory 65536 -; data 0 4294967295 x0506", api.Bounds, 4294967294, []byte{0, 0}},
		{"memory 1 1 i64; data 0 65535 x01", 0, 65534, []byte{0, 1}},
		{"memory 1 1 i64; data 0 4294967296 x01", api.Bounds, 0, []byte{0}},
		{"memory 65536 - i64; data 0 4294967295 x01", 0, 4294967294, []byte{0, 1}},
		{"memory 65536 - i64; data 0 4294967296 x", 0, 0, []byte{0}},
		{"memory 65536 - i64; data 0 4294967297 x", api.Bounds, 0, []byte{0}},
		{"memory 1 1 i64; data 0 18446744073709551615 x01", api.Bounds, 0, []byte{0}},
		{"memory 1 1 i64; data 0 18446744073709551615 x", api.Bounds, 0, []byte{0}},
		{"memory 1 1 i64; data 0 18446744073709551614 x01020304", api.Bounds, 0, []byte{0, 0, 0}},
		{"memory 1 1; data 0 5 x010203; data 0 6 x0405; data 0 8 x06", 0, 4, []byte{0, 1, 4, 5, 6, 0}},
		{"memory 1 1; data 0 6 x0405; data 0 5 x010203", 0, 4, []byte{0, 1, 2, 3, 0}},
		{"memory 1 1; data 0 6 x0405; data 0 6 x; data 0 65535 x0102; data 0 5 x010203", api.Bounds, 4, []byte{0, 0, 4, 5, 0}},
		{"memory 1 1; data 0 6 x0405; data 0 65537 x; data 0 5 x010203", api.Bounds, 4, []byte{0, 0, 4, 5, 0}},
		{"memory 1 1; data 0 6 x04; data 0 7 x05; data 0 65537 x01; data 0 65537 x02", api.Bounds, 4, []byte{0, 0, 4, 5, 0}},
		{"memory 1 1; memory 2 2; data 1 65534 x01020304; data 0 65534 x0506", 0, 65534, []byte{5, 6}},
		{"memory 1 1; memory 2 2; data 0 65534 x0506; data 0 65534 x01020304; data 1 65534 x07", api.Bounds, 65534, []byte{5, 6}},
		{"memory 2 2; memory 1 1; data 1 65534 x01020304; data 0 65534 x0506", api.Bounds, 65534, []byte{0, 0}},
	} {
		d := roomy(t)
		s, trap := d.begun(t, c.lines, 9)
		if trap != c.trap {
			t.Errorf("%q: %d, not %d", c.lines, trap, c.trap)
		}
		loads(t, s, 0, c.at, c.want...)
		if e := s.Close(); e != api.OK || d.store.Used() != 0 || d.pager.Resident() != 0 {
			t.Errorf("%q: Close: %d; %d blocks are in use", c.lines, e, d.store.Used())
		}
	}
}

// TestBoth is of the chapter's words: elements are asked ahead of data, also where both trap; behind a trap the state is as any other one.
func TestBoth(t *testing.T) {
	d := roomy(t)
	s, trap := d.begun(t, some+"table 2; memory 1 2; global i32 var 4; elem 1 2; elem 2 2; data 0 7 x01; data 0 65536 x02", 0)
	if trap != api.Undefined || d.arena.Live() != 32 {
		t.Errorf("New: %d; %d bytes are taken", trap, d.arena.Live())
	}
	table(t, s, -1, 2)
	loads(t, s, 0, 6, 0, 0, 0)
	other, trap := d.begun(t, some+"table 2; memory 1 2; global i32 var 4; elem 1 2; data 0 7 x01; data 0 65536 x02", 1)
	if trap != api.Bounds || d.arena.Live() != 64 {
		t.Errorf("New: %d; %d bytes are taken", trap, d.arena.Live())
	}
	table(t, other, -1, 2)
	loads(t, other, 0, 6, 0, 1, 0)
	for _, s := range []*state.State{s, other} {
		if e := s.Set(0, 9); e != api.OK || s.Module() == nil {
			t.Errorf("Set: %d", e)
		}
		globals(t, s, 9)
		memory(t, s, 0).Grow(1)
		pages(t, s, 2)
		if e := s.Close(); e != api.OK {
			t.Errorf("Close: %d", e)
		}
		shut(t, s)
	}
	if d.arena.Live() != 0 || d.store.Used() != 0 {
		t.Errorf("%d bytes are taken, %d blocks in use", d.arena.Live(), d.store.Used())
	}
}

// TestDataMost is of the chapter's words: as much data as a module may have, in memories beside each other.
func TestDataMost(t *testing.T) {
	m := lines(t, "memory 1 1; memory 1 1; memory 1 1; memory 2 2")
	for i := range 20 {
		b := bytes.Repeat([]byte{byte(i + 1)}, 4096)
		m.Datas = append(m.Datas, module.Data{Mem: i % 4, At: uint64(i * 3000), Bytes: b})
	}
	d := paged(t, fresh(t, 32), 3, 4096)
	s, trap, e := state.New(m, d.arena, d.pager, most)
	if trap != api.NoTrap || e != api.OK {
		t.Fatalf("New: %d, %d", trap, e)
	}
	for i, x := range m.Datas {
		loads(t, s, i%4, x.At, x.Bytes...)
		loads(t, s, i%4, x.At+4096, 0)
	}
	if e := s.Close(); e != api.OK || d.store.Used() != 0 || d.store.Peak() < 1000 {
		t.Errorf("Close: %d; %d blocks, at most %d", e, d.store.Used(), d.store.Peak())
	}
}
