package octet_test

import (
	"bytes"
	"math"
	"testing"

	"halyard/api"
	"halyard/octet"
)

// roomy: the bytes, with room behind them that holds a pattern; and all of it, to look at.
func roomy(x ...byte) (b, all []byte) {
	all = append(append([]byte{}, x...), bytes.Repeat([]byte{0xa5}, 40)...)
	return all[:len(x)], all
}

// spoil: everything that an answer can reach is overwritten.
func spoil(x []byte) {
	x = x[:cap(x)]
	for i := range x {
		x[i] ^= 0xff
	}
}

// callsOver: every call that takes bytes and answers some.
func callsOver(b, x []byte) map[string]func() []byte {
	return map[string]func() []byte{
		"AppendNumber":          func() []byte { return octet.AppendNumber(b, 300) },
		"AppendBytes":           func() []byte { return octet.AppendBytes(b, x) },
		"AppendBytes, nil":      func() []byte { return octet.AppendBytes(nil, x) },
		"AppendBytes of itself": func() []byte { return octet.AppendBytes(b, b) },
		"Seal":                  func() []byte { return octet.Seal(b) },
		"Unseal":                func() []byte { y, _ := octet.Unseal(b); return y },
		"Burst":                 func() []byte { return octet.Burst(b, 3, 0xdeadbeef) },
		"Burst of nothing":      func() []byte { return octet.Burst(b, 0, 0) },
		"Burst far away":        func() []byte { return octet.Burst(b, math.MaxInt, 1) },
		"Bytes":                 func() []byte { return octet.New(b).Bytes(9) },
		"Take":                  func() []byte { return octet.New(b).Take(len(b)) },
		"Take(0)":               func() []byte { return octet.New(b).Take(0) },
	}
}

func TestMemoryOfCalls(t *testing.T) {
	sealed := octet.Seal([]byte{2, 7, 8})
	for _, given := range [][]byte{{}, {2, 7, 8}, sealed} {
		b, allB := roomy(given...)
		x, allX := roomy(9, 10)
		wasB, wasX := bytes.Clone(allB), bytes.Clone(allX)
		for name, call := range callsOver(b, x) {
			first, second := call(), call()
			want := bytes.Clone(second)
			spoil(first)
			same(t, "P101: "+name+": an answer shares memory with another", second, want)
			spoil(second)
			same(t, "P101: "+name+": the list handed in, or its room", allB, wasB)
			same(t, "P101: "+name+": the other list handed in, or its room", allX, wasX)
			same(t, "P101: "+name+": called again", call(), want)
		}
		octet.CRC(b)
		octet.Number(b)
		same(t, "P101: CRC, Number: the list handed in, or its room", allB, wasB)
	}
}

func TestMemoryOfReader(t *testing.T) {
	b, all := roomy(1, 6, 1, 7, 8, 9)
	r := octet.New(b)
	spoil(b)
	was := bytes.Clone(all)
	same(t, "P101: Bytes, when what New was given has changed", r.Bytes(5), []byte{6})
	x := r.Bytes(5)
	same(t, "P101: Bytes", x, []byte{7})
	spoil(x)
	y := r.Take(1)
	same(t, "P101: Take, when what Bytes gave has changed", y, []byte{8})
	spoil(y)
	spoil(r.Take(0))
	same(t, "P101: Take, when what Take gave has changed", r.Take(1), []byte{9})
	if r.End() != api.OK {
		t.Errorf("P101: End = %d", r.End())
	}
	same(t, "P101: what New was given", all, was)
}

func TestReadersOfOneList(t *testing.T) {
	b := []byte{3, 4}
	r, s := octet.New(b), octet.New(b)
	if r.Number(9) != 3 || s.Left() != 2 || s.Number(9) != 3 {
		t.Error("P101: two readers of one list share a place")
	}
	r.Fail(api.ErrUnit)
	if s.Err() != api.OK || s.Number(9) != 4 || s.End() != api.OK {
		t.Error("P101: two readers of one list share a fault")
	}
}

func TestReadersThatNewDidNotMake(t *testing.T) {
	for name, r := range map[string]*octet.Reader{"nil": nil, "of no constructor": {}, "of new": new(octet.Reader)} {
		// Twice: what was called on it before changes nothing.
		for range 2 {
			r.Fail(api.ErrSeal)
			r.Fail(api.OK)
			for _, most := range []uint64{0, 9, math.MaxUint64} {
				if n := r.Number(most); n != 0 {
					t.Errorf("P101: %s: Number = %d", name, n)
				}
			}
			for _, n := range []int{math.MinInt, -1, 0, 1, math.MaxInt} {
				if x, y := r.Bytes(n), r.Take(n); len(x) != 0 || len(y) != 0 {
					t.Errorf("P101: %s: Bytes, Take of %d = %x, %x", name, n, x, y)
				}
			}
			if r.Left() != 0 || r.Err() != api.ErrArg || r.End() != api.ErrArg {
				t.Errorf("P101: %s: Left %d, Err %d, End %d", name, r.Left(), r.Err(), r.End())
			}
		}
	}
}

func TestNilAndEmptyMeanTheSame(t *testing.T) {
	empty := []byte{}
	same(t, "P101: AppendNumber", octet.AppendNumber(nil, 7), octet.AppendNumber(empty, 7))
	same(t, "P101: AppendBytes", octet.AppendBytes(nil, nil), octet.AppendBytes(empty, empty))
	same(t, "P101: Seal", octet.Seal(nil), octet.Seal(empty))
	same(t, "P101: Burst", octet.Burst(nil, 0, 1), octet.Burst(empty, 0, 1))
	for _, b := range [][]byte{nil, empty} {
		if n, size, e := octet.Number(b); n != 0 || size != 0 || e != api.ErrShort {
			t.Errorf("P101: Number of nothing: %d, %d, %d", n, size, e)
		}
		if x, e := octet.Unseal(b); len(x) != 0 || e != api.ErrShort {
			t.Errorf("P101: Unseal of nothing: %x, %d", x, e)
		}
		r := octet.New(b)
		if r.Left() != 0 || r.Err() != api.OK || r.End() != api.OK {
			t.Errorf("P101: a Reader of nothing: %d, %d", r.Left(), r.Err())
		}
	}
}
