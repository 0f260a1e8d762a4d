package bundle_test

import (
	"bytes"
	"encoding/hex"
	"math/rand"
	"reflect"
	"strings"
	"testing"

	"halyard/api"
	"halyard/bundle"
	"halyard/octet"
)

const tooGreat = uint64(api.MaxNumber) + 1

func raw(t *testing.T, s string) []byte {
	t.Helper()
	b, err := hex.DecodeString(strings.ReplaceAll(s, " ", ""))
	if err != nil {
		t.Fatal(err)
	}
	return b
}

// alike: are two answers the same, with nil and empty lists as one?
func alike(a, b bundle.Bundle) bool { return reflect.DeepEqual(plain(a), plain(b)) }

func plain(b bundle.Bundle) bundle.Bundle {
	blocks := []bundle.Block{}
	for _, x := range b.Blocks {
		x.Data = append([]byte{}, x.Data...)
		blocks = append(blocks, x)
	}
	b.Blocks, b.Payload = blocks, append([]byte{}, b.Payload...)
	return b
}

func alikeFrames(a, b api.Frame) bool {
	same := bytes.Equal(a.Data, b.Data)
	a.Data, b.Data = nil, nil
	return same && reflect.DeepEqual(a, b)
}

// chance: the same numbers at every run.
func chance() *rand.Rand { return rand.New(rand.NewSource(1)) }

func someBytes(r *rand.Rand, n int) []byte {
	b := make([]byte, n)
	r.Read(b)
	return b
}

// someNumber: of each size as often, with the edges.
func someNumber(r *rand.Rand) uint64 {
	n := uint64(1)<<r.Intn(49) - 1
	if r.Intn(2) == 0 {
		n &= r.Uint64()
	}
	return n
}

func someEID(r *rand.Rand) bundle.EID { return bundle.EID{Node: someNumber(r), Service: someNumber(r)} }

// someBundle: a good bundle, which may have too many bytes.
func someBundle(r *rand.Rand) bundle.Bundle {
	b := bundle.Bundle{Flags: r.Uint64() % 8, Dest: someEID(r), Source: someEID(r), ReportTo: someEID(r)}
	b.Stamp, b.Life = api.Stamp{Time: someNumber(r), Seq: someNumber(r)}, someNumber(r)
	b.Payload = someBytes(r, []int{0, 1, 3, 127, 128, 300, 512}[r.Intn(7)])
	if r.Intn(8) == 0 {
		return fullBundle(r, b)
	}
	numbers := r.Perm(254)
	once := map[uint64]int{}
	for i := range r.Intn(9) {
		x := bundle.Block{Type: []uint64{6, 7, 10, 2, 3, 11, 200, 255}[r.Intn(8)], Number: uint64(numbers[i] + 2), Flags: r.Uint64() % 256}
		if once[x.Type] > 0 {
			x.Type = 200
		}
		once[x.Type] = len(needs(x.Type))
		x.Data = someData(r, x.Type)
		b.Blocks = append(b.Blocks, x)
	}
	return b
}

// fullBundle: b with about MaxBlock bytes.
func fullBundle(r *rand.Rand, b bundle.Bundle) bundle.Bundle {
	for i := range 7 {
		b.Blocks = append(b.Blocks, bundle.Block{Type: 200, Number: uint64(20 + i), Data: someBytes(r, 64)})
	}
	b.Payload = someBytes(r, 400+r.Intn(113))
	return b
}

// needs: the limits of the numbers that the chapter asks for in the Data of a type.
func needs(kind uint64) []uint64 {
	switch kind {
	case 6:
		return []uint64{api.MaxNumber, api.MaxNumber}
	case 7:
		return []uint64{api.MaxNumber}
	case 10:
		return []uint64{255, 255}
	}
	return nil
}

func someData(r *rand.Rand, kind uint64) []byte {
	switch kind {
	case 6:
		return octet.AppendNumber(octet.AppendNumber(nil, someNumber(r)), someNumber(r))
	case 7:
		return octet.AppendNumber(nil, someNumber(r))
	case 10:
		limit := uint64(1 + r.Intn(255))
		return octet.AppendNumber(octet.AppendNumber(nil, limit), uint64(r.Intn(int(limit)+1)))
	}
	return someBytes(r, []int{0, 1, 20, 64}[r.Intn(4)])
}

// wordsOfData: the chapter's list of what a block's Data must be.
func wordsOfData(kind uint64, data []byte) bool {
	if len(data) > 64 {
		return false
	}
	var got []uint64
	limits := needs(kind)
	for _, most := range limits {
		n, size, e := octet.Number(data)
		if e != api.OK || n > most {
			return false
		}
		got, data = append(got, n), data[size:]
	}
	if kind == 10 && (got[0] == 0 || got[1] > got[0]) {
		return false
	}
	return limits == nil || len(data) == 0
}

// wordsOfGood: the chapter's sentence on a good bundle.
func wordsOfGood(b bundle.Bundle) bool {
	ok := b.Flags <= 7 && len(b.Blocks) <= 8 && len(b.Payload) <= 512
	for _, n := range []uint64{b.Dest.Node, b.Dest.Service, b.Source.Node, b.Source.Service, b.ReportTo.Node, b.ReportTo.Service, b.Stamp.Time, b.Stamp.Seq, b.Life} {
		ok = ok && n <= api.MaxNumber
	}
	numbers, types := map[uint64]int{}, map[uint64]int{}
	for _, x := range b.Blocks {
		ok = ok && x.Type >= 2 && x.Type <= 255 && x.Number >= 2 && x.Number <= 255 && x.Flags <= 255 && wordsOfData(x.Type, x.Data)
		numbers[x.Number]++
		types[x.Type]++
		ok = ok && numbers[x.Number] == 1 && (types[x.Type] == 1 || needs(x.Type) == nil)
	}
	return ok
}

// wordsOfBytes: the chapter's sentence on a bundle's bytes.
func wordsOfBytes(b bundle.Bundle) []byte {
	out := []byte{6}
	number := func(n uint64) { out = octet.AppendNumber(out, n) }
	list := func(x []byte) { number(uint64(len(x))); out = append(out, x...) }
	number(b.Flags)
	for _, e := range []bundle.EID{b.Dest, b.Source, b.ReportTo} {
		number(e.Node)
		number(e.Service)
	}
	number(b.Stamp.Time)
	number(b.Stamp.Seq)
	number(b.Life)
	number(uint64(len(b.Blocks)))
	for _, x := range b.Blocks {
		number(x.Type)
		number(x.Number)
		number(x.Flags)
		list(x.Data)
	}
	list(b.Payload)
	return out
}

// wordsOfDecode: P204's sentence: from the front, field by field. Its faults are thrown, and caught at the end.
func wordsOfDecode(b []byte) (x bundle.Bundle, e api.Errno) {
	defer func() {
		if f, ok := recover().(api.Errno); ok {
			x, e = bundle.Bundle{}, f
		}
	}()
	if len(b) > 1024 {
		panic(api.ErrSize)
	}
	number := func(most uint64) uint64 {
		n, size, e := octet.Number(b)
		if e != api.OK {
			panic(e)
		}
		if n > most {
			panic(api.ErrNumber)
		}
		b = b[size:]
		return n
	}
	field := func(least, most uint64) uint64 {
		n := number(api.MaxNumber)
		if n < least || n > most {
			panic(api.ErrBundle)
		}
		return n
	}
	list := func(most uint64) []byte {
		n := number(most)
		if n > uint64(len(b)) {
			panic(api.ErrShort)
		}
		l := b[:n]
		b = b[n:]
		return l
	}
	if len(b) == 0 {
		panic(api.ErrShort)
	}
	if b[0] != 6 {
		panic(api.ErrBundle)
	}
	b = b[1:]
	x.Flags = field(0, 7)
	for _, n := range []*uint64{&x.Dest.Node, &x.Dest.Service, &x.Source.Node, &x.Source.Service, &x.ReportTo.Node, &x.ReportTo.Service, &x.Stamp.Time, &x.Stamp.Seq, &x.Life} {
		*n = number(api.MaxNumber)
	}
	for range field(0, 8) {
		kind := field(2, 255)
		for _, y := range x.Blocks {
			if y.Type == kind && needs(kind) != nil {
				panic(api.ErrBundle)
			}
		}
		n := field(2, 255)
		for _, y := range x.Blocks {
			if y.Number == n {
				panic(api.ErrBundle)
			}
		}
		flags := field(0, 255)
		data := list(64)
		if !wordsOfData(kind, data) {
			panic(api.ErrBundle)
		}
		x.Blocks = append(x.Blocks, bundle.Block{Type: kind, Number: n, Flags: flags, Data: data})
	}
	x.Payload = list(512)
	if len(b) > 0 {
		panic(api.ErrRest)
	}
	return x, api.OK
}
