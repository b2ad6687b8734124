package flash_test

import (
	"bytes"
	"math"
	"sync"
	"sync/atomic"
	"testing"

	"grommet/api"
	"grommet/flash"
)

// made is a flash of bytes that may be.
func made(t *testing.T, b []byte) *flash.Flash {
	t.Helper()
	f, e := flash.New(b)
	if f == nil || e != api.OK {
		t.Fatalf("New of %d bytes: %v, %d", len(b), f, e)
	}
	return f
}

// counting is n bytes: 0, 1, 2 and so on.
func counting(n int) []byte {
	b := make([]byte, n)
	for i := range b {
		b[i] = byte(i)
	}
	return b
}

// TestNew is of P2.1: how many bytes there may be.
func TestNew(t *testing.T) {
	for _, n := range []int{0, 1, 3, api.MaxModule - 1, api.MaxModule} {
		f := made(t, counting(n))
		if b, e := f.Bytes(0, n); f.Len() != n || !bytes.Equal(b, counting(n)) || e != api.OK {
			t.Errorf("of %d bytes: Len %d, %d read, %d", n, f.Len(), len(b), e)
		}
	}
	if f := made(t, nil); f.Len() != 0 || f.Reads() != 0 {
		t.Errorf("of nil: Len %d, Reads %d", f.Len(), f.Reads())
	}
	for _, n := range []int{api.MaxModule + 1, 2 * api.MaxModule} {
		if f, e := flash.New(make([]byte, n)); f != nil || e != api.ErrLong {
			t.Errorf("New of %d bytes: %v, %d", n, f, e)
		}
	}
}

// TestCopies is of P2.1: neither what was handed in nor what was answered is the flash's own.
func TestCopies(t *testing.T) {
	b := []byte{1, 2, 3}
	f := made(t, b)
	b[0] = 9
	c, _ := f.Cursor(0, 3)
	for _, read := range []func() ([]byte, api.Errno){
		func() ([]byte, api.Errno) { return f.Bytes(0, 3) },
		func() ([]byte, api.Errno) { return c.Take(3) },
		func() ([]byte, api.Errno) { return f.Bytes(0, 3) },
	} {
		got, e := read()
		if string(got) != "\x01\x02\x03" || e != api.OK {
			t.Errorf("%v, %d", got, e)
		}
		clear(got[:cap(got)])
	}
	if string(b) != "\x09\x02\x03" {
		t.Errorf("what was handed in is now %v", b)
	}
}

// TestPlaces is of P2.1: all places and lengths around those that are there.
func TestPlaces(t *testing.T) {
	const n = 5
	f := made(t, counting(n))
	reads := 0
	for at := -2; at <= n+2; at++ {
		for k := -2; k <= n+2; k++ {
			b, e := f.Bytes(at, k)
			if at < 0 || k < 0 || at+k > n {
				if b != nil || e != api.ErrRange {
					t.Errorf("Bytes(%d, %d): %v, %d", at, k, b, e)
				}
			} else if reads++; !bytes.Equal(b, counting(n)[at:at+k]) || e != api.OK {
				t.Errorf("Bytes(%d, %d): %v, %d", at, k, b, e)
			}
		}
		b, e := f.Byte(at)
		if at < 0 || at >= n {
			if b != 0 || e != api.ErrRange {
				t.Errorf("Byte(%d): %d, %d", at, b, e)
			}
		} else if reads++; b != byte(at) || e != api.OK {
			t.Errorf("Byte(%d): %d, %d", at, b, e)
		}
		if f.Reads() != reads {
			t.Fatalf("Reads: %d, not %d", f.Reads(), reads)
		}
	}
}

// TestGreatPlaces is of P2.1: places and lengths whose sum is beyond all numbers.
func TestGreatPlaces(t *testing.T) {
	f := made(t, counting(5))
	for _, c := range [][2]int{{1, math.MaxInt}, {math.MaxInt, 1}, {math.MaxInt, math.MaxInt}, {math.MaxInt, 0}, {math.MinInt, 0}, {0, math.MinInt}, {math.MinInt, math.MinInt}, {math.MinInt, math.MaxInt}, {-1, math.MaxInt}} {
		if b, e := f.Bytes(c[0], c[1]); b != nil || e != api.ErrRange {
			t.Errorf("Bytes(%d, %d): %v, %d", c[0], c[1], b, e)
		}
	}
	for _, at := range []int{math.MinInt, math.MaxInt} {
		if b, e := f.Byte(at); b != 0 || e != api.ErrRange {
			t.Errorf("Byte(%d): %d, %d", at, b, e)
		}
	}
	if f.Reads() != 0 {
		t.Errorf("Reads: %d", f.Reads())
	}
}

// TestFailAt is of P2.1: the n-th read and each one behind it fails, counted from 0 on; those that fail are counted, those that are refused aren't.
func TestFailAt(t *testing.T) {
	for _, n := range []int{math.MinInt, -1, 0, 1, 3, 6, math.MaxInt} {
		f := made(t, counting(8))
		f.FailAt(n)
		for i := range 6 {
			f.Bytes(7, 2)
			f.Byte(-1)
			fails := n >= 0 && i >= n
			if i%2 == 0 {
				b, e := f.Byte(i)
				if fails && (b != 0 || e != api.ErrFault) || !fails && (b != byte(i) || e != api.OK) {
					t.Errorf("FailAt(%d), read %d: %d, %d", n, i, b, e)
				}
			} else {
				b, e := f.Bytes(i, 2)
				if fails && (b != nil || e != api.ErrFault) || !fails && (!bytes.Equal(b, counting(8)[i:i+2]) || e != api.OK) {
					t.Errorf("FailAt(%d), read %d: %v, %d", n, i, b, e)
				}
			}
			if f.Reads() != i+1 {
				t.Errorf("FailAt(%d): Reads %d, not %d", n, f.Reads(), i+1)
			}
		}
	}
}

// TestFailAtAgain is of P2.1: reads are numbered from the first one on, whenever it is scripted, and what was scripted last holds.
func TestFailAtAgain(t *testing.T) {
	f := made(t, counting(3))
	for _, c := range []struct {
		at int
		e  api.Errno
	}{{-1, api.OK}, {2, api.OK}, {2, api.ErrFault}, {4, api.OK}, {4, api.ErrFault}, {0, api.ErrFault}, {-7, api.OK}} {
		f.FailAt(c.at)
		if _, e := f.Byte(0); e != c.e {
			t.Errorf("FailAt(%d), read %d: %d", c.at, f.Reads()-1, e)
		}
	}
}

// TestRefusedAheadOfFault is of P2.1: a place that isn't there is told as that, also of a flash that fails; a read of no bytes is a read.
func TestRefusedAheadOfFault(t *testing.T) {
	f := made(t, counting(3))
	f.FailAt(0)
	if _, e := f.Byte(3); e != api.ErrRange {
		t.Errorf("Byte: %d", e)
	}
	if _, e := f.Bytes(2, 2); e != api.ErrRange {
		t.Errorf("Bytes: %d", e)
	}
	if b, e := f.Bytes(3, 0); b != nil || e != api.ErrFault || f.Reads() != 1 {
		t.Errorf("Bytes of none: %v, %d, Reads %d", b, e, f.Reads())
	}
}

// TestNilFlash is of P2.1 and P2.2.
func TestNilFlash(t *testing.T) {
	var f *flash.Flash
	f.FailAt(0)
	if f.Len() != 0 || f.Reads() != 0 {
		t.Errorf("Len %d, Reads %d", f.Len(), f.Reads())
	}
	for _, n := range []int{math.MinInt, -1, 0, 1, math.MaxInt} {
		if b, e := f.Byte(n); b != 0 || e != api.ErrState {
			t.Errorf("Byte(%d): %d, %d", n, b, e)
		}
		if b, e := f.Bytes(n, n); b != nil || e != api.ErrState {
			t.Errorf("Bytes(%d, %d): %v, %d", n, n, b, e)
		}
		if c, e := f.Cursor(n, n); c != nil || e != api.ErrState {
			t.Errorf("Cursor(%d, %d): %v, %d", n, n, c, e)
		}
	}
}

// TestReadsAtOnce is of P2.1: each read has a number of its own, also if many read at once.
func TestReadsAtOnce(t *testing.T) {
	const readers, each, fail = 8, 500, 3000
	f := made(t, counting(9))
	f.FailAt(fail)
	var failed atomic.Int64
	var all sync.WaitGroup
	for range readers {
		all.Go(func() {
			for i := range each {
				if _, e := f.Byte(i % 9); e == api.ErrFault {
					failed.Add(1)
				}
			}
		})
	}
	all.Wait()
	if f.Reads() != readers*each || failed.Load() != readers*each-fail {
		t.Errorf("Reads %d, of which %d failed", f.Reads(), failed.Load())
	}
}
