package cutter_test

import (
	"bytes"
	"math/rand"
	"slices"
	"testing"

	"halyard/api"
	"halyard/cutter"
)

// plain: a box as the chapter's sentences tell it: the segments that are there, by their numbers.
type plain struct {
	count int
	there map[int][]byte
}

func (p plain) length() int {
	for i, x := range p.there {
		if i != p.count-1 {
			return len(x)
		}
	}
	return 0
}

// fits: the chapter's sentence on what fits.
func (p plain) fits() bool {
	last, hasLast := p.there[p.count-1]
	length := p.length()
	for i, x := range p.there {
		if len(x) < 1 || i != p.count-1 && len(x) != length {
			return false
		}
	}
	if length > 0 && hasLast && len(last) > length {
		return false
	}
	least := 0
	switch {
	case length > 0 && hasLast:
		least = (p.count-1)*length + len(last)
	case length > 0:
		least = (p.count-1)*length + 1
	case hasLast:
		least = p.count * len(last)
	}
	return least <= 1024
}

// comesOfACut: is there a block, and a length to cut it by, of which those that are there are segments? (So it must be of a box that fits.)
func (p plain) comesOfACut() bool {
	for length := 1; length <= 1024; length++ {
		if p.length() != 0 && p.length() != length {
			continue
		}
		for last := 1; last <= length && (p.count-1)*length+last <= 1024; last++ {
			if x, ok := p.there[p.count-1]; !ok || len(x) == last {
				return true
			}
		}
	}
	return false
}

func (p plain) put(index int, segment []byte) api.Errno {
	if index < 0 || index >= p.count || len(segment) < 1 || len(segment) > 1024 {
		return api.ErrArg
	}
	if x, ok := p.there[index]; ok {
		if bytes.Equal(x, segment) {
			return api.ErrTwice
		}
		return api.ErrShape
	}
	p.there[index] = bytes.Clone(segment)
	if !p.fits() {
		delete(p.there, index)
		return api.ErrShape
	}
	return api.OK
}

func (p plain) got() []api.Range {
	var got []api.Range
	for i := range p.count {
		if _, ok := p.there[i]; !ok {
			continue
		}
		if n := len(got); n > 0 && got[n-1].To == i {
			got[n-1].To = i + 1
		} else {
			got = append(got, api.Range{From: i, To: i + 1})
		}
	}
	return got
}

func (p plain) whole() []byte {
	var all []byte
	for i := range p.count {
		all = append(all, p.there[i]...)
	}
	return all
}

// both: a box and the plain one, called alike.
type both struct {
	t *testing.T
	b *cutter.Box
	p plain
}

func start(t *testing.T, count int) both {
	return both{t, box(t, count), plain{count, map[int][]byte{}}}
}

// put: on both; what they answer, and what is to be seen of them then, is the same.
func (x both) put(index int, segment []byte) api.Errno {
	x.t.Helper()
	had := len(x.p.there)
	got, want := x.b.Put(index, segment), x.p.put(index, segment)
	if got != want {
		x.t.Fatalf("P1204: %d of %d are there, the length is %d: Put(%d) of %d bytes: %v, want %v", had, x.p.count, x.p.length(), index, len(segment), got, want)
	}
	x.same()
	return got
}

func (x both) same() {
	x.t.Helper()
	n, ok := x.b.Length()
	if x.b.Count() != x.p.count || n != x.p.length() || ok != (n > 0) || !slices.Equal(x.b.Got(), x.p.got()) {
		x.t.Fatalf("P1205, P1207: Count %d, Length %d, %v, Got %v, want %d, %d, %v", x.b.Count(), n, ok, x.b.Got(), x.p.count, x.p.length(), x.p.got())
	}
	block, ok := x.b.Whole()
	if ok != (len(x.p.there) == x.p.count) || ok && !bytes.Equal(block, x.p.whole()) || !ok && len(block) > 0 {
		x.t.Fatalf("P1205, P1207: Whole = %x, %v; %d of %d are there: %x", block, ok, len(x.p.there), x.p.count, x.p.whole())
	}
}

// TestEachRowOfPuts: each row of four puts into boxes of one to three segments, of a few short segments.
func TestEachRowOfPuts(t *testing.T) {
	segments := [][]byte{{1}, {2}, {1, 2}, {1, 2, 3}}
	for count := 1; count <= 3; count++ {
		places := count + 2
		choices := places * len(segments)
		for row := range choices * choices * choices * choices {
			x := start(t, count)
			for k, i := row, 0; i < 4; i++ {
				c := k % choices
				x.put(c%places-1, segments[c/places])
				k /= choices
			}
		}
	}
}

// edges: sizes of segments at which something may change in a box of that count.
func edges(count int) []int {
	l := []int{1, 2, 3, 5, 16, 17, 511, 512, 513, 1022, 1023, 1024, 1025}
	for d := -2; d <= 2; d++ {
		l = append(l, 1024/count+d, 1024/max(count-1, 1)+d, 1024%count+d)
	}
	slices.Sort(l)
	return slices.DeleteFunc(slices.Compact(l), func(n int) bool { return n < 0 })
}

// TestEdgesOfSizes: in boxes of each count a first segment, the last one and a third one, in two orders, of sizes about each edge.
func TestEdgesOfSizes(t *testing.T) {
	for count := 1; count <= 64; count++ {
		sizes := edges(count)
		for _, m := range sizes {
			for _, n := range sizes {
				for _, order := range [][]int{{0, count - 1}, {count - 1, 0}} {
					x := start(t, count)
					x.put(order[0], some(m))
					x.put(order[1], some(n))
					x.put(count/2, some(max(m, n)))
				}
			}
		}
	}
}

// TestEverySizeBesideALast: boxes of a few segments, with each size of the last one and, about where it may be just not, of another one.
func TestEverySizeBesideALast(t *testing.T) {
	for _, count := range []int{2, 3, 4, 5, 31, 63, 64} {
		for last := 1; last <= 1024; last++ {
			most := (1024 - last) / (count - 1)
			for _, n := range []int{last - 1, last, last + 1, most - 1, most, most + 1} {
				if n < 1 {
					continue
				}
				x := start(t, count)
				x.put(count-1, some(last))
				x.put(0, some(n))
				x = start(t, count)
				x.put(0, some(n))
				x.put(count-1, some(last))
			}
		}
	}
}

// TestWhatFitsComesOfACut: a box takes a segment just where some block has it and all that are there as its segments.
func TestWhatFitsComesOfACut(t *testing.T) {
	for count := 1; count <= 64; count += 1 + count/5 {
		for _, m := range edges(count) {
			for _, n := range edges(count) {
				x := start(t, count)
				for _, put := range []struct{ index, size int }{{count - 1, m}, {0, n}} {
					if put.size < 1 || put.size > 1024 || len(x.p.there[put.index]) > 0 {
						continue
					}
					with := plain{count, map[int][]byte{put.index: some(put.size)}}
					for i, s := range x.p.there {
						with.there[i] = s
					}
					if e := x.put(put.index, some(put.size)); (e == api.OK) != with.comesOfACut() {
						t.Fatalf("P1206: a box of %d with %v: Put(%d) of %d bytes: %v", count, x.p.got(), put.index, put.size, e)
					}
				}
			}
		}
	}
}

// someSegment: mostly one that goes with others of its box.
func someSegment(r *rand.Rand, count, length int) []byte {
	n := length
	switch r.Intn(8) {
	case 0:
		n = r.Intn(length + 2)
	case 1:
		n = r.Intn(1026)
	case 2:
		n = []int{0, 1, 1024 / count, 1024/count + 1, 1024, 1025}[r.Intn(6)]
	}
	b := make([]byte, n)
	if r.Intn(3) == 0 && n > 0 { // few kinds of bytes: the same segment comes again
		b[r.Intn(n)] = byte(r.Intn(2))
	}
	return b
}

// TestAgainstThePlainOne: any puts, till most boxes are whole and beyond that; what a whole one has is cut into its segments again.
func TestAgainstThePlainOne(t *testing.T) {
	wholes := 0
	for seed := range int64(3000) {
		r := rand.New(rand.NewSource(seed))
		count := 1 + r.Intn(1+r.Intn(64))
		length := 1 + r.Intn(1024/count+1)
		x := start(t, count)
		for range 4 * count {
			i := r.Intn(count+2) - 1
			x.put(i, someSegment(r, count, length))
		}
		for i := range count {
			x.put(i, make([]byte, max(x.p.length(), 1)))
		}
		if block, ok := x.b.Whole(); ok {
			wholes++
			cutAgain(t, x, block)
		}
	}
	if wholes < 1000 {
		t.Errorf("P1206: %d whole ones are too few to tell", wholes)
	}
}

func cutAgain(t *testing.T, x both, block []byte) {
	t.Helper()
	mtus := []int{x.p.length()}
	if x.p.count == 1 {
		mtus = []int{len(block), min(len(block)+1, 1024), 1024}
	}
	for _, mtu := range mtus {
		l := cuts(t, block, mtu)
		if len(block) > 1024 || len(l) != x.p.count {
			t.Fatalf("P1206: a whole box of %d: %d bytes, cut by %d: %d segments", x.p.count, len(block), mtu, len(l))
		}
		for i, s := range l {
			if !bytes.Equal(s, x.p.there[i]) {
				t.Fatalf("P1206: segment %d of a whole box was %x, is cut as %x", i, x.p.there[i], s)
			}
		}
	}
}

// TestNoTrace: a box into which much is put that is refused is as one into which just the rest was put.
func TestNoTrace(t *testing.T) {
	for seed := range int64(1000) {
		r := rand.New(rand.NewSource(seed))
		count := 1 + r.Intn(8)
		a, b := box(t, count), box(t, count)
		for range 40 {
			i, s := r.Intn(count+2)-1, someSegment(r, count, 1+r.Intn(4))
			if a.Put(i, s) == api.OK {
				puts(t, b, i, s, api.OK)
			}
			m, ok := a.Length()
			n, ok2 := b.Length()
			x, whole := a.Whole()
			y, whole2 := b.Whole()
			if m != n || ok != ok2 || whole != whole2 || !bytes.Equal(x, y) || !slices.Equal(a.Got(), b.Got()) || a.Count() != b.Count() {
				t.Fatalf("P1207: Got %v, Length %d, Whole %x; without what was refused: %v, %d, %x", a.Got(), m, x, b.Got(), n, y)
			}
		}
	}
}
