package ether_test

import (
	"bytes"
	"math"
	"testing"

	"halyard/api"
	"halyard/ether"
	"halyard/octet"
)

// way: one with that room, on which those datagrams are.
func way(t *testing.T, room int, put ...[]byte) *ether.Way {
	t.Helper()
	w, e := ether.New(room)
	if e != api.OK || w == nil || w.Len() != 0 {
		t.Fatalf("P1102: New(%d) = %v, %v", room, w, e)
	}
	for _, b := range put {
		puts(t, w, b, api.OK)
	}
	return w
}

func puts(t *testing.T, w *ether.Way, b []byte, want api.Errno) {
	t.Helper()
	if e := w.Put(b); e != want {
		t.Fatalf("P1103: Put of %d bytes: %v, want %v", len(b), e, want)
	}
}

func doubles(t *testing.T, w *ether.Way, i int, want api.Errno) {
	t.Helper()
	if e := w.Double(i); e != want {
		t.Fatalf("P1105: Double(%d) = %v, want %v", i, e, want)
	}
}

func turns(t *testing.T, w *ether.Way, i, at int, mask uint32, want api.Errno) {
	t.Helper()
	if e := w.Turn(i, at, mask); e != want {
		t.Fatalf("P1106: Turn(%d, %d, %#x) = %v, want %v", i, at, mask, e, want)
	}
}

func drops(t *testing.T, w *ether.Way, i int, want api.Errno) {
	t.Helper()
	if e := w.Drop(i); e != want {
		t.Fatalf("P1104: Drop(%d) = %v, want %v", i, e, want)
	}
}

func takes(t *testing.T, w *ether.Way, i int, want ...byte) {
	t.Helper()
	if b, e := w.Take(i); e != api.OK || !bytes.Equal(b, want) {
		t.Fatalf("P1104: Take(%d) = %x, %v, want %x", i, b, e, want)
	}
}

// holds: the row is just those datagrams, and behind both its ends there is nothing.
func holds(t *testing.T, w *ether.Way, want ...[]byte) {
	t.Helper()
	if w.Len() != len(want) {
		t.Fatalf("P1103: Len = %d, want %d", w.Len(), len(want))
	}
	for i, x := range want {
		if b, e := w.Look(i); e != api.OK || !bytes.Equal(b, x) {
			t.Fatalf("P1104: Look(%d) = %x, %v, want %x", i, b, e, x)
		}
	}
	for _, i := range []int{-1, len(want), len(want) + 1, math.MinInt, math.MaxInt} {
		if b, e := w.Look(i); e != api.ErrNone || len(b) != 0 {
			t.Fatalf("P1104: Look(%d) of %d = %x, %v", i, len(want), b, e)
		}
	}
}

func TestExamples(t *testing.T) {
	w := way(t, 2, []byte{1}, []byte{2})
	puts(t, w, []byte{3}, api.ErrFull)
	puts(t, w, make([]byte, 2049), api.ErrSize)

	holds(t, w, []byte{1}, []byte{2})
	doubles(t, w, 0, api.ErrFull)
	takes(t, w, 0, 1)
	holds(t, w, []byte{2})
	doubles(t, w, 0, api.OK)
	holds(t, w, []byte{2}, []byte{2})

	turns(t, w, 0, 0, 3, api.OK)
	holds(t, w, []byte{1}, []byte{2})
	turns(t, w, 0, 0, 1, api.ErrTwice)
	turns(t, w, 1, 8, 1, api.ErrArg)
	turns(t, w, 1, 7, 1, api.OK)
	turns(t, w, 1, -1, 2, api.ErrTwice)
	turns(t, w, 1, -1, 1, api.ErrArg)
	holds(t, w, []byte{1}, []byte{130})

	takes(t, w, 0, 1)
	doubles(t, w, 0, api.OK)
	turns(t, w, 1, 0, 1, api.ErrTwice)
	holds(t, w, []byte{130}, []byte{130})

	w = way(t, 1, nil)
	turns(t, w, 0, 0, 1, api.ErrArg)
	holds(t, w, nil)
}

func TestNoWay(t *testing.T) {
	for _, w := range []*ether.Way{nil, {}, new(ether.Way)} {
		for _, i := range []int{0, -1, 5, math.MaxInt} {
			b, e := w.Look(i)
			c, f := w.Take(i)
			if e != api.ErrArg || f != api.ErrArg || len(b)+len(c) != 0 {
				t.Errorf("P1101: Look(%d) = %x, %v, Take: %x, %v", i, b, e, c, f)
			}
			drops(t, w, i, api.ErrArg)
			doubles(t, w, i, api.ErrArg)
			turns(t, w, i, 0, 1, api.ErrArg)
			turns(t, w, i, 0, 0, api.ErrArg)
		}
		puts(t, w, nil, api.ErrArg)
		puts(t, w, []byte{1}, api.ErrArg)
		puts(t, w, make([]byte, 2049), api.ErrArg)
		if w.Len() != 0 {
			t.Errorf("P1101: Len = %d", w.Len())
		}
	}
}

func TestNew(t *testing.T) {
	for _, n := range []int{0, -1, 1025, 1026, math.MinInt, math.MaxInt, 1 << 32, 1<<32 + 1} {
		if w, e := ether.New(n); e != api.ErrArg || w != nil {
			t.Errorf("P1102: New(%d) = %v, %v", n, w, e)
		}
	}
	for _, n := range []int{1, 2, 3, 1023, 1024} {
		w := way(t, n)
		holds(t, w)
		for i := range n {
			if w.Len() != i {
				t.Fatalf("P1103: Len = %d, want %d", w.Len(), i)
			}
			puts(t, w, []byte{byte(i), byte(i >> 8)}, api.OK)
		}
		puts(t, w, []byte{1}, api.ErrFull)
		puts(t, w, nil, api.ErrFull)
		doubles(t, w, n-1, api.ErrFull)
		if w.Len() != n {
			t.Errorf("P1109: Len = %d with a room of %d", w.Len(), n)
		}
	}
}

// TestWaysApart: two ways have nothing in common.
func TestWaysApart(t *testing.T) {
	a, b := way(t, 2, []byte{1}), way(t, 1, []byte{2})
	turns(t, a, 0, 0, 1, api.OK)
	doubles(t, a, 0, api.OK)
	holds(t, a, []byte{0}, []byte{0})
	holds(t, b, []byte{2})
	turns(t, b, 0, 0, 1, api.OK)
	drops(t, a, 1, api.OK)
	holds(t, b, []byte{3})
	holds(t, a, []byte{0})
}

func TestSizes(t *testing.T) {
	w := way(t, 8)
	var want [][]byte
	for _, n := range []int{0, 1, 2047, 2048} {
		b := bytes.Repeat([]byte{byte(n + 9)}, n)
		puts(t, w, b, api.OK)
		want = append(want, b)
	}
	for _, n := range []int{2049, 4096, 1 << 20} {
		puts(t, w, make([]byte, n), api.ErrSize)
	}
	holds(t, w, want...)
	doubles(t, w, 0, api.OK)
	doubles(t, w, 3, api.OK)
	holds(t, w, append(want, nil, want[3])...)
}

// TestSizeAheadOfRoom: too many bytes are told of ahead of a way that is full.
func TestSizeAheadOfRoom(t *testing.T) {
	w := way(t, 1, nil)
	puts(t, w, make([]byte, 2049), api.ErrSize)
	puts(t, w, make([]byte, 2048), api.ErrFull)
	doubles(t, w, 1, api.ErrNone)
	doubles(t, w, -1, api.ErrNone)
	doubles(t, w, 0, api.ErrFull)
	holds(t, w, nil)
}

func five(t *testing.T) *ether.Way {
	return way(t, 9, []byte("a"), []byte("b"), []byte("c"), []byte("d"), []byte("e"))
}

func TestTakeAndDropMoveUp(t *testing.T) {
	for i := range 5 {
		var want [][]byte
		for k := range 5 {
			if k != i {
				want = append(want, []byte{byte('a' + k)})
			}
		}
		w, v := five(t), five(t)
		takes(t, w, i, byte('a'+i))
		drops(t, v, i, api.OK)
		holds(t, w, want...)
		holds(t, v, want...)
		puts(t, w, []byte("f"), api.OK)
		holds(t, w, append(want, []byte("f"))...)
	}
}

func TestNoSuchPlace(t *testing.T) {
	for _, w := range []*ether.Way{five(t), way(t, 3)} {
		n := w.Len()
		for _, i := range []int{-1, n, n + 1, 9, math.MinInt, math.MaxInt, 1 << 32} {
			if b, e := w.Take(i); e != api.ErrNone || len(b) != 0 {
				t.Errorf("P1104: Take(%d) = %x, %v", i, b, e)
			}
			drops(t, w, i, api.ErrNone)
			doubles(t, w, i, api.ErrNone)
			turns(t, w, i, 0, 1, api.ErrNone)
			turns(t, w, i, -5, 0, api.ErrNone)
		}
		if w.Len() != n {
			t.Errorf("P1109: Len = %d, it was %d", w.Len(), n)
		}
	}
	holds(t, way(t, 3))
}

// TestBits: each place and each mask of a few, about both ends of a datagram of n bytes: a Turn is OK just where every bit is one of its.
func TestBits(t *testing.T) {
	for _, n := range []int{0, 1, 2, 4, 5, 2048} {
		b := bytes.Repeat([]byte{0x5a}, n)
		for _, mask := range []uint32{0, 1, 2, 3, 0x80, 0x100, 0x81, 0x10000, 0x8000, 0x80000000, 0x80000001, 0x40000002, 0xffffffff, 0xffff0000} {
			for at := -70; at < 8*n+70; at++ {
				if n == 2048 && at > 40 && at < 8*n-40 {
					continue
				}
				want := api.OK
				if mask == 0 {
					want = api.ErrArg
				}
				for j := range 32 {
					if k := at + j; mask>>j&1 == 1 && (k < 0 || k > 8*n-1) {
						want = api.ErrArg
					}
				}
				w := way(t, 1, b)
				turns(t, w, 0, at, mask, want)
				if want == api.OK {
					holds(t, w, octet.Burst(b, at, mask))
					turns(t, w, 0, at, mask, api.ErrTwice)
					holds(t, w, octet.Burst(b, at, mask))
				} else {
					holds(t, w, b)
				}
			}
		}
	}
}

// TestFarPlaces: sums at the ends of int wrap round to no bit.
func TestFarPlaces(t *testing.T) {
	w := way(t, 1, make([]byte, 2048))
	for _, at := range []int{math.MinInt, math.MinInt + 1, math.MinInt + 31, math.MaxInt, math.MaxInt - 1, math.MaxInt - 31, 1 << 32, -1 << 32, 1 << 20} {
		for _, mask := range []uint32{0, 1, 2, 0x80000000, 0xffffffff} {
			turns(t, w, 0, at, mask, api.ErrArg)
		}
	}
	holds(t, w, make([]byte, 2048))
	turns(t, w, 0, 8*2048-1, 1, api.OK)
}

// TestArgAheadOfTwice: of a datagram that was turned, what is no burst of its bits is told of first.
func TestArgAheadOfTwice(t *testing.T) {
	w := way(t, 1, []byte{7, 7})
	turns(t, w, 0, -31, 0x80000000, api.OK)
	holds(t, w, []byte{6, 7})
	for _, c := range []struct {
		at   int
		mask uint32
		want api.Errno
	}{{0, 0, api.ErrArg}, {16, 1, api.ErrArg}, {15, 3, api.ErrArg}, {-1, 3, api.ErrArg}, {15, 1, api.ErrTwice}, {-31, 0x80000000, api.ErrTwice}, {0, 0xffff, api.ErrTwice}, {0, 0x1ffff, api.ErrArg}} {
		turns(t, w, 0, c.at, c.mask, c.want)
	}
	holds(t, w, []byte{6, 7})
}

// TestDoublesAndBursts: a double that was made ahead of a Turn is turned by itself; one that was made behind it, and what comes of it, is not turned again.
func TestDoublesAndBursts(t *testing.T) {
	w := way(t, 9, []byte{0})
	doubles(t, w, 0, api.OK) // 1: made ahead
	turns(t, w, 0, 0, 1, api.OK)
	holds(t, w, []byte{1}, []byte{0})
	doubles(t, w, 0, api.OK) // 2: made behind
	doubles(t, w, 2, api.OK) // 3: made of that one
	holds(t, w, []byte{1}, []byte{0}, []byte{1}, []byte{1})
	turns(t, w, 2, 1, 1, api.ErrTwice)
	turns(t, w, 3, 1, 1, api.ErrTwice)
	doubles(t, w, 1, api.OK) // 4: of the one that is not turned
	turns(t, w, 1, 1, 1, api.OK)
	turns(t, w, 4, 2, 1, api.OK)
	holds(t, w, []byte{1}, []byte{2}, []byte{1}, []byte{1}, []byte{4})
	drops(t, w, 0, api.OK) // what they were doubled from is gone: they are as they were
	drops(t, w, 0, api.OK)
	turns(t, w, 0, 1, 1, api.ErrTwice)
	turns(t, w, 1, 1, 1, api.ErrTwice)
	puts(t, w, []byte{1}, api.OK) // the same bytes, put: not turned
	turns(t, w, 3, 7, 1, api.OK)
	holds(t, w, []byte{1}, []byte{1}, []byte{4}, []byte{129})
}

// TestTurnedMovesUp: whether it was turned goes with a datagram, not with its place.
func TestTurnedMovesUp(t *testing.T) {
	w := way(t, 3, []byte{0}, []byte{0}, []byte{0})
	turns(t, w, 1, 0, 1, api.OK)
	takes(t, w, 0, 0)
	turns(t, w, 0, 1, 1, api.ErrTwice)
	turns(t, w, 1, 1, 1, api.OK)
	drops(t, w, 0, api.OK)
	turns(t, w, 0, 0, 1, api.ErrTwice)
	takes(t, w, 0, 2)
	puts(t, w, []byte{0}, api.OK) // where one stood that was turned
	turns(t, w, 0, 0, 1, api.OK)
}
