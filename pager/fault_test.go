package pager_test

import (
	"bytes"
	"fmt"
	"slices"
	"testing"

	"grommet/api"
)

// call is one of a pager, and what it answers.
type call func(d device) (string, api.Errno)

func reading(mem, page int) call {
	return func(d device) (string, api.Errno) {
		b, e := d.Read(mem, page, 0, 16)
		return fmt.Sprint(b), e
	}
}

func writing(mem, page int, v byte) call {
	return func(d device) (string, api.Errno) {
		return "", d.Write(mem, page, page, []byte{v})
	}
}

func dropping(mem int) call {
	return func(d device) (string, api.Errno) {
		return "", d.Drop(mem)
	}
}

func flushing(d device) (string, api.Errno) {
	return "", d.Flush()
}

// scene is calls in whose course each call meets each operation that it may.
func scene() []call {
	var l []call
	for page := range 5 {
		l = append(l, writing(page%2, page, byte(page+1)))
	}
	l = append(l, flushing, reading(0, 0), writing(0, 0, 9), reading(1, 1), writing(1, 1, 0), writing(0, 7, 8), reading(0, 2), reading(1, 3), writing(0, 7, 0), reading(0, 4), reading(0, 0))
	l = append(l, writing(0, 2, 0), writing(1, 3, 7), flushing, reading(0, 0), dropping(0), reading(0, 4), writing(1, 1, 5), writing(0, 2, 6), flushing, dropping(1), dropping(1), reading(0, 2))
	for page := range 4 {
		l = append(l, writing(1, page, byte(page+1)), reading(0, page))
	}
	return append(l, flushing, dropping(0), dropping(1), flushing)
}

// answer is what a call has answered, and how many operations there were behind it.
type answer struct {
	text string
	e    api.Errno
	ops  int
}

// answers is what a row of calls answers, up to the first one that isn't OK, which is among them.
func answers(d device, l []call) []answer {
	var all []answer
	for _, c := range l {
		text, e := c(d)
		all = append(all, answer{text, e, d.store.Ops()})
		if e != api.OK {
			break
		}
	}
	return all
}

// broken holds that it is broken by an error, answers nothing any more, though nothing fails any more, and can be closed once.
func broken(t *testing.T, d device, e api.Errno) {
	t.Helper()
	if d.Fault() != e || d.Size() != 16 || d.Resident() > 2 {
		t.Errorf("Fault %d, not %d, Size %d, Resident %d", d.Fault(), e, d.Size(), d.Resident())
	}
	d.ended(t)
	d.store.FailAt(-1)
	for d.store.Used() > 0 {
		for id := range d.store.Capacity() {
			d.store.Free(id)
		}
	}
	d.ended(t)
	live := d.arena.Live()
	if live != d.arena.Size() {
		t.Errorf("Live %d", live)
	}
	ops := d.store.Ops()
	if c := d.Close(); c != api.OK || d.arena.Live() != 0 || d.Resident() != 0 || d.store.Ops() != ops {
		t.Errorf("Close: %d, Live %d, Resident %d", c, d.arena.Live(), d.Resident())
	}
	if c := d.Close(); c != api.ErrState || d.Fault() != e {
		t.Errorf("Close of one that is closed: %d, Fault %d", c, d.Fault())
	}
	d.ended(t)
}

// TestFaultAtEach is of P7.1 and P7.2: whichever operation fails first, up to the call that meets it all is as without it; that call answers ErrFault, and nothing beside it, and it is broken by that.
func TestFaultAtEach(t *testing.T) {
	for frames := 1; frames <= 2; frames++ {
		whole := answers(made(t, frames, 20), scene())
		last := whole[len(whole)-1]
		if last.e != api.OK || len(whole) != len(scene()) || last.ops < 30 {
			t.Fatalf("%d frames, without a fault: %+v", frames, last)
		}
		for n := range last.ops {
			d := made(t, frames, 20)
			d.store.FailAt(n)
			all := answers(d, scene())
			met := len(all) - 1
			want := slices.IndexFunc(whole, func(a answer) bool { return a.ops > n })
			if met != want || !slices.Equal(all[:met], whole[:met]) {
				t.Fatalf("%d frames, fault at %d: %+v, not %+v", frames, n, all, whole[:want])
			}
			if a := all[met]; a.text != "" && a.text != "[]" || a.e != api.ErrFault || a.ops != n+1 {
				t.Errorf("%d frames, fault at %d: %+v", frames, n, a)
			}
			broken(t, d, api.ErrFault)
		}
	}
}

// TestFaultBehindAll is of P7.1: a fault that no call meets breaks nothing; a store that has failed for another one breaks nothing either.
func TestFaultBehindAll(t *testing.T) {
	d := made(t, 2, 20)
	d.store.FailAt(0)
	d.play(t, "w0 w1 w0 r1")
	if _, e := d.store.Alloc(); e != api.ErrFault {
		t.Fatalf("Alloc: %d", e)
	}
	d.play(t, "w0 w1 w0 r1")
	d.drop(t, 0)
	d.play(t, "r0 r1 r2 r3 f")
	d.works(t)
	d.store.FailAt(-1)
	d.play(t, "w0 w1 w2 w3 f")
	d.works(t)
}

// TestFullAtEach is of P7.1 and P7.2: a store that has fewer blocks than are needed: up to the call that misses one all is as with enough; that call answers ErrFull, and nothing beside it, and it is broken by that.
func TestFullAtEach(t *testing.T) {
	for frames := 1; frames <= 2; frames++ {
		whole := answers(made(t, frames, 20), scene())
		for capacity := range 5 {
			d := made(t, frames, capacity)
			all := answers(d, scene())
			met := len(all) - 1
			if !slices.Equal(all[:met], whole[:met]) || all[met].text != "" && all[met].text != "[]" || all[met].e != api.ErrFull {
				t.Fatalf("%d frames, %d blocks: %+v", frames, capacity, all)
			}
			if d.store.Used() != capacity {
				t.Errorf("%d frames, %d blocks: Used %d", frames, capacity, d.store.Used())
			}
			broken(t, d, api.ErrFull)
		}
	}
}

// TestFullByEach is of P7.1 and P7.2: Read, Write and Flush miss a block.
func TestFullByEach(t *testing.T) {
	for i, c := range []call{reading(0, 1), reading(0, 9), writing(0, 1, 0), writing(0, 9, 1), flushing} {
		for _, capacity := range []int{0, 1} {
			d := made(t, 1, capacity)
			for page := range capacity {
				d.write(t, 0, 100+page, 0, 1)
			}
			d.write(t, 0, 0, 0, 1)
			if text, e := c(d); text != "" && text != "[]" || e != api.ErrFull {
				t.Errorf("call %d, %d blocks: %s, %d", i, capacity, text, e)
			}
			if d.Resident() != 1 {
				t.Errorf("call %d: Resident %d", i, d.Resident())
			}
			broken(t, d, api.ErrFull)
		}
	}
}

// TestOtherBlocks is of P7.1: blocks that others have of its store are missing to it.
func TestOtherBlocks(t *testing.T) {
	d := made(t, 1, 2)
	if _, e := d.store.Alloc(); e != api.OK {
		t.Fatalf("Alloc: %d", e)
	}
	d.play(t, "w0 w1")
	if e := d.Write(0, 2, 0, []byte{1}); e != api.ErrFull || d.Fault() != api.ErrFull {
		t.Errorf("Write: %d, Fault %d", e, d.Fault())
	}
}

// TestFullThenFault is of P7.1 and P7.2: it is broken by what it met first.
func TestFullThenFault(t *testing.T) {
	d := made(t, 1, 0)
	d.play(t, "w0")
	if e := d.Flush(); e != api.ErrFull {
		t.Errorf("Flush: %d", e)
	}
	d.store.FailAt(0)
	d.ended(t)
	if d.Fault() != api.ErrFull {
		t.Errorf("Fault %d", d.Fault())
	}
	// A full store that fails tells that it fails.
	d = made(t, 1, 0)
	d.play(t, "w0")
	d.store.FailAt(0)
	if e := d.Flush(); e != api.ErrFault || d.Fault() != api.ErrFault {
		t.Errorf("Flush: %d, Fault %d", e, d.Fault())
	}
}

// TestNeverFull is of P7.3: it isn't broken, as long as no more pages were written with a byte that isn't 0 than there are blocks, whatever else is read, and written with 0s, and behind each Drop anew; one more breaks it.
func TestNeverFull(t *testing.T) {
	for _, frames := range []int{1, 2, 5} {
		for capacity := range 6 {
			d := made(t, frames, capacity)
			for round := range 3 {
				for page := range capacity {
					d.write(t, round, page, page, byte(round+1))
					d.write(t, round, 99+page, 0, 0)
					d.zeros(t, 7, page)
				}
				for page := range capacity {
					d.reads(t, round, page, page, byte(round+1))
				}
				d.flush(t)
				d.drop(t, round)
			}
			d.works(t)
			for page := range capacity + 1 {
				d.works(t)
				d.write(t, 0, page, 0, 1)
			}
			if e := d.Flush(); e != api.ErrFull {
				t.Errorf("%d frames, %d blocks: Flush: %d", frames, capacity, e)
			}
		}
	}
}

// TestDropInOrder is of P7.1: which blocks are free, if one can't be freed, is the same each time: those of the lower pages.
func TestDropInOrder(t *testing.T) {
	for range 20 {
		d := made(t, 1, 9)
		d.play(t, "w8 w6 w7 w5 w3 w4 w2 w1 w10")
		d.store.FailAt(d.store.Ops() + 5)
		if e := d.Drop(0); e != api.ErrFault {
			t.Fatalf("Drop: %d", e)
		}
		d.store.FailAt(-1)
		var left []byte
		for id := range 9 {
			if b, e := d.store.Read(id); e == api.OK {
				left = append(left, b[0]-1)
			}
		}
		if !bytes.Equal(left, []byte{8, 6, 7}) {
			t.Fatalf("pages left in blocks: %v", left)
		}
		broken(t, d, api.ErrFault)
	}
}
