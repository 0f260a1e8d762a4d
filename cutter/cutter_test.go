package cutter_test

import (
	"bytes"
	"math"
	"math/rand"
	"slices"
	"testing"

	"halyard/api"
	"halyard/cutter"
)

// some: n bytes, each unlike its neighbours.
func some(n int) []byte {
	b := make([]byte, n)
	for i := range b {
		b[i] = byte(i*7 + i>>8*3 + 1)
	}
	return b
}

func box(t *testing.T, count int) *cutter.Box {
	t.Helper()
	b, e := cutter.New(count)
	if e != api.OK || b == nil {
		t.Fatalf("P1203: New(%d) = %v, %v", count, b, e)
	}
	return b
}

func puts(t *testing.T, b *cutter.Box, index int, segment []byte, want api.Errno) {
	t.Helper()
	if e := b.Put(index, segment); e != want {
		t.Fatalf("P1204: Put(%d) of %d bytes: %v, want %v", index, len(segment), e, want)
	}
}

func cuts(t *testing.T, block []byte, mtu int) [][]byte {
	t.Helper()
	l, e := cutter.Cut(block, mtu)
	if e != api.OK {
		t.Fatalf("P1202: Cut of %d bytes by %d: %v", len(block), mtu, e)
	}
	return l
}

// looks: the box is of that count, with that length (0: not known), and these numbers, two ends a range.
func looks(t *testing.T, b *cutter.Box, count, length int, ends ...int) {
	t.Helper()
	got := []api.Range{}
	for i := 0; i < len(ends); i += 2 {
		got = append(got, api.Range{From: ends[i], To: ends[i+1]})
	}
	n, ok := b.Length()
	if b.Count() != count || n != length || ok != (length > 0) || !slices.Equal(b.Got(), got) {
		t.Fatalf("P1205: Count %d, Length %d, %v, Got %v, want %d, %d, %v", b.Count(), n, ok, b.Got(), count, length, got)
	}
}

func isWhole(t *testing.T, b *cutter.Box, want ...byte) {
	t.Helper()
	if x, ok := b.Whole(); !ok || !bytes.Equal(x, want) {
		t.Fatalf("P1205: Whole = %x, %v, want %x", x, ok, want)
	}
}

func isPart(t *testing.T, b *cutter.Box) {
	t.Helper()
	if x, ok := b.Whole(); ok || len(x) != 0 {
		t.Fatalf("P1205: Whole = %x, %v of one that is not", x, ok)
	}
}

func TestExamplesOfCut(t *testing.T) {
	l := cuts(t, []byte{1, 2, 3, 4, 5}, 2)
	if !slices.EqualFunc(l, [][]byte{{1, 2}, {3, 4}, {5}}, bytes.Equal) {
		t.Errorf("P1202: Cut = %v", l)
	}
	for _, c := range []struct {
		size, mtu, count int
		want             api.Errno
	}{
		{5, 5, 1, api.OK}, {5, 9, 1, api.OK},
		{65, 1, 0, api.ErrFull}, {64, 1, 64, api.OK},
		{0, 1, 0, api.ErrArg}, {5, 0, 0, api.ErrArg}, {5, 1025, 0, api.ErrArg}, {1025, 1024, 0, api.ErrSize},
	} {
		if l, e := cutter.Cut(some(c.size), c.mtu); e != c.want || len(l) != c.count {
			t.Errorf("P1202: Cut of %d bytes by %d = %v, %v", c.size, c.mtu, l, e)
		}
	}
}

func TestExamplesOfABox(t *testing.T) {
	b := box(t, 3)
	puts(t, b, 2, []byte{9, 9}, api.OK)
	puts(t, b, 0, []byte{1}, api.ErrShape)
	looks(t, b, 3, 0, 2, 3)
	puts(t, b, 0, []byte{1, 2, 3}, api.OK)
	puts(t, b, 1, []byte{4, 5}, api.ErrShape)
	looks(t, b, 3, 3, 0, 1, 2, 3)
	isPart(t, b)
	puts(t, b, 1, []byte{4, 5, 6}, api.OK)
	isWhole(t, b, 1, 2, 3, 4, 5, 6, 9, 9)
	puts(t, b, 0, []byte{1, 2, 3}, api.ErrTwice)
	puts(t, b, 0, []byte{1, 2, 4}, api.ErrShape)
	puts(t, b, 3, []byte{1}, api.ErrArg)
	isWhole(t, b, 1, 2, 3, 4, 5, 6, 9, 9)
	looks(t, b, 3, 3, 0, 3)

	b = box(t, 64)
	puts(t, b, 63, some(17), api.ErrShape)
	puts(t, b, 63, some(16), api.OK)
	puts(t, b, 5, some(17), api.ErrShape)
	puts(t, b, 5, some(16), api.OK)
	looks(t, b, 64, 16, 5, 6, 63, 64)

	b = box(t, 1)
	puts(t, b, 0, some(1024), api.OK)
	looks(t, b, 1, 0, 0, 1)
	isWhole(t, b, some(1024)...)
}

func TestNoBox(t *testing.T) {
	for _, b := range []*cutter.Box{nil, {}, new(cutter.Box)} {
		for range 2 {
			for _, i := range []int{0, -1, 1, 63, 64, math.MinInt, math.MaxInt} {
				puts(t, b, i, []byte{1}, api.ErrArg)
				puts(t, b, i, nil, api.ErrArg)
				puts(t, b, i, some(1025), api.ErrArg)
			}
			looks(t, b, 0, 0)
			isPart(t, b)
		}
	}
}

func TestNew(t *testing.T) {
	for _, n := range []int{0, -1, -64, 65, 66, 128, math.MinInt, math.MaxInt, 1 << 32, 1<<32 + 1} {
		if b, e := cutter.New(n); e != api.ErrArg || b != nil {
			t.Errorf("P1203: New(%d) = %v, %v", n, b, e)
		}
	}
	for n := 1; n <= 64; n++ {
		b := box(t, n)
		looks(t, b, n, 0)
		isPart(t, b)
	}
}

// TestEachCut: each size of a block under each length, about all that is refused too.
func TestEachCut(t *testing.T) {
	all := some(1030)
	for size := 0; size <= 1030; size++ {
		for mtu := -3; mtu <= 1030; mtu++ {
			count := 0
			if mtu > 0 {
				count = (size + mtu - 1) / mtu
			}
			l, e := cutter.Cut(all[:size], mtu)
			want := api.OK
			switch {
			case mtu < 1 || mtu > 1024 || size == 0:
				want, count = api.ErrArg, 0
			case size > 1024:
				want, count = api.ErrSize, 0
			case count > 64:
				want, count = api.ErrFull, 0
			}
			if e != want || len(l) != count {
				t.Fatalf("P1202: Cut of %d bytes by %d: %d segments, %v, want %d, %v", size, mtu, len(l), e, count, want)
			}
			at := 0
			for i, x := range l {
				n := mtu
				if i == count-1 {
					n = size - at
				}
				if len(x) != n || n < 1 || n > mtu || !bytes.Equal(x, all[at:at+n]) {
					t.Fatalf("P1202: Cut of %d bytes by %d: segment %d has %d bytes", size, mtu, i, len(x))
				}
				at += n
			}
			if e == api.OK && at != size {
				t.Fatalf("P1202: Cut of %d bytes by %d has %d", size, mtu, at)
			}
		}
	}
}

func TestFarCuts(t *testing.T) {
	for _, mtu := range []int{math.MinInt, math.MinInt + 1, -1 << 32, 1 << 32, 1<<32 + 1, 1 << 58, 1<<58 + 1, math.MaxInt - 1, math.MaxInt} {
		for _, size := range []int{0, 1, 64, 1024, 1025, 1 << 20} {
			if l, e := cutter.Cut(make([]byte, size), mtu); e != api.ErrArg || len(l) != 0 {
				t.Errorf("P1202: Cut of %d bytes by %d: %d segments, %v", size, mtu, len(l), e)
			}
		}
	}
	for _, mtu := range []int{1, 16, 1024} { // more than 64 segments as well: the size is told of first
		if l, e := cutter.Cut(make([]byte, 1<<20), mtu); e != api.ErrSize || len(l) != 0 {
			t.Errorf("P1202: Cut of 2^20 bytes by %d: %d segments, %v", mtu, len(l), e)
		}
	}
	for _, b := range [][]byte{nil, {}} {
		if l, e := cutter.Cut(b, 5); e != api.ErrArg || len(l) != 0 {
			t.Errorf("P1202: Cut of nothing: %v, %v", l, e)
		}
	}
}

// TestWrongPuts: no number of a segment, no byte, too many: ErrArg, whatever is there.
func TestWrongPuts(t *testing.T) {
	for _, n := range []int{1, 2, 63, 64} {
		b := box(t, n)
		for _, next := range []int{-1, n - 1, 0} { // empty; with its last one; with its first one too
			b.Put(next, []byte{5})
			for _, i := range []int{-1, n, n + 1, 64, 65, math.MinInt, math.MaxInt, 1 << 32, -1 << 32} {
				puts(t, b, i, []byte{1}, api.ErrArg)
				puts(t, b, i, nil, api.ErrArg)
			}
			for _, i := range []int{0, n - 1} {
				puts(t, b, i, nil, api.ErrArg)
				puts(t, b, i, []byte{}, api.ErrArg)
				puts(t, b, i, some(1025), api.ErrArg)
				puts(t, b, i, some(1<<20), api.ErrArg)
			}
		}
	}
}

// TestOneSegment: a box of one segment has the last one alone: each size is good, and the length is never known.
func TestOneSegment(t *testing.T) {
	for size := 1; size <= 1024; size++ {
		b := box(t, 1)
		x := some(size)
		puts(t, b, 0, x, api.OK)
		looks(t, b, 1, 0, 0, 1)
		isWhole(t, b, x...)
		puts(t, b, 0, x, api.ErrTwice)
		if size > 1 {
			puts(t, b, 0, x[1:], api.ErrShape)
		}
		if size < 1024 {
			puts(t, b, 0, some(size+1), api.ErrShape)
		}
		isWhole(t, b, x...)
	}
}

// TestAgain: where a segment is there the same bytes are told of as twice, all others as another shape: one byte more, one less, one that is unlike.
func TestAgain(t *testing.T) {
	for _, i := range []int{0, 1, 2} {
		b := box(t, 3)
		puts(t, b, 0, []byte{1, 2, 3}, api.OK)
		puts(t, b, 1, []byte{1, 2, 3}, api.OK)
		puts(t, b, 2, []byte{1, 2, 3}, api.OK)
		puts(t, b, i, []byte{1, 2, 3}, api.ErrTwice)
		for _, x := range [][]byte{{1, 2}, {1}, {2, 2, 3}, {1, 2, 2}, {1, 3, 3}, {1, 2, 3, 0}, {0, 1, 2, 3}, some(1024)} {
			puts(t, b, i, x, api.ErrShape)
		}
		puts(t, b, i, []byte{1, 2, 3}, api.ErrTwice)
		isWhole(t, b, 1, 2, 3, 1, 2, 3, 1, 2, 3)
	}
}

// TestThereAndBack: segments in any order, each of them any number of times, come to the block again.
func TestThereAndBack(t *testing.T) {
	r := rand.New(rand.NewSource(12))
	for size := 1; size <= 1024; size++ {
		for _, mtu := range []int{(size + 63) / 64, 1 + r.Intn(1024), 1 + r.Intn(size), 16, size, 1024} {
			if mtu*64 < size {
				continue
			}
			block := make([]byte, size)
			r.Read(block)
			comes(t, r, block, cuts(t, block, mtu), mtu)
		}
	}
}

// comes: all of the segments come, mixed, some of them early once more.
func comes(t *testing.T, r *rand.Rand, block []byte, segments [][]byte, mtu int) {
	t.Helper()
	n := len(segments)
	b := box(t, n)
	there := make([]bool, n)
	for left := n; left > 0; {
		isPart(t, b)
		i := r.Intn(n)
		if there[i] && r.Intn(4) > 0 {
			i = slices.Index(there, false)
		}
		want := api.OK
		if there[i] {
			want = api.ErrTwice
		} else {
			left--
		}
		there[i] = true
		puts(t, b, i, segments[i], want)
	}
	isWhole(t, b, block...)
	for i := range n {
		puts(t, b, i, segments[i], api.ErrTwice)
	}
	isWhole(t, b, block...)
	length := mtu
	if n == 1 {
		length = 0
	}
	looks(t, b, n, length, 0, n)
}

// TestEachOrder: four segments in each order.
func TestEachOrder(t *testing.T) {
	block := []byte{1, 2, 3, 4, 5, 6, 7}
	segments := cuts(t, block, 2)
	for k := range 256 {
		order := []int{k & 3, k >> 2 & 3, k >> 4 & 3, k >> 6 & 3}
		b := box(t, 4)
		var there [4]bool
		for _, i := range order {
			want := api.OK
			if there[i] {
				want = api.ErrTwice
			}
			puts(t, b, i, segments[i], want)
			there[i] = true
		}
		if there == [4]bool{true, true, true, true} {
			isWhole(t, b, block...)
		} else {
			isPart(t, b)
		}
	}
}

// TestBoxesApart: two boxes have nothing in common.
func TestBoxesApart(t *testing.T) {
	a, b := box(t, 2), box(t, 3)
	puts(t, a, 0, []byte{1, 2}, api.OK)
	looks(t, b, 3, 0)
	puts(t, b, 0, []byte{3}, api.OK)
	puts(t, b, 2, []byte{4}, api.OK)
	puts(t, a, 1, []byte{5}, api.OK)
	looks(t, a, 2, 2, 0, 2)
	looks(t, b, 3, 1, 0, 1, 2, 3)
	isWhole(t, a, 1, 2, 5)
	isPart(t, b)
}

// TestGotInLeastForm: each set of six segments.
func TestGotInLeastForm(t *testing.T) {
	for set := range 64 {
		b := box(t, 6)
		var ends []int
		for i := range 6 {
			if set>>i&1 == 0 {
				continue
			}
			puts(t, b, i, []byte{byte(i)}, api.OK)
			if n := len(ends); n > 0 && ends[n-1] == i {
				ends[n-1]++
			} else {
				ends = append(ends, i, i+1)
			}
		}
		length := 1
		if set&31 == 0 {
			length = 0
		}
		looks(t, b, 6, length, ends...)
	}
}
