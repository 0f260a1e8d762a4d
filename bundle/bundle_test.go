package bundle_test

import (
	"bytes"
	"math"
	"testing"

	"halyard/api"
	"halyard/bundle"
	"halyard/octet"
)

const wrappedText = "06 07 05 01 04 01 04 00 82 2c 02 32 02  0a 02 00 02 08 00  07 03 00 01 00  03 07 08 09"

func frame() api.Frame {
	return api.Frame{Stream: 1, Stamp: api.Stamp{Time: 300, Seq: 2}, Life: 50, Data: []byte{7, 8, 9}}
}

// wrapped: the examples' bundle.
func wrapped(t *testing.T) bundle.Bundle {
	t.Helper()
	b, e := bundle.Wrap(frame(), 4, 5, true)
	if e != api.OK {
		t.Fatalf("P206: Wrap = %d", e)
	}
	return b
}

// sized: a good bundle with just so many bytes, about MaxBlock, and with this block.
func sized(t *testing.T, n int, x bundle.Block) bundle.Bundle {
	t.Helper()
	b := bundle.Bundle{Flags: 1, Stamp: api.Stamp{Time: api.MaxNumber, Seq: api.MaxNumber}, Life: api.MaxNumber, Blocks: []bundle.Block{x}}
	for i := range 7 {
		b.Blocks = append(b.Blocks, bundle.Block{Type: 200, Number: uint64(20 + i), Data: make([]byte, 64)})
	}
	// The length of the Payload takes one byte now, and two then.
	b.Payload = make([]byte, n-len(wordsOfBytes(b))-1)
	if len(wordsOfBytes(b)) != n || !wordsOfGood(b) {
		t.Fatalf("no good bundle of %d bytes: %d", n, len(wordsOfBytes(b)))
	}
	return b
}

// lastSmall: blocks whose count or age takes one byte more, when it is one more.
func lastSmall() (hop, age bundle.Block) {
	return bundle.Block{Type: 10, Number: 2, Data: []byte{0x81, 0x7f, 0x7f}}, bundle.Block{Type: 7, Number: 3, Data: []byte{0x7f}}
}

// empty: is it the answer beside an error?
func empty(b bundle.Bundle) bool { return alike(b, bundle.Bundle{}) }

// all: every call that asks Valid first must have its error.
func all(t *testing.T, what string, b bundle.Bundle, want api.Errno) {
	t.Helper()
	if e := bundle.Valid(b); e != want {
		t.Errorf("P202: %s: Valid = %d, want %d", what, e, want)
	}
	l, e := bundle.Encode(b)
	if e != want || e != api.OK && len(l) != 0 {
		t.Errorf("P203: %s: Encode = %x, %d, want %d", what, l, e, want)
	}
	if e == api.OK && !bytes.Equal(l, wordsOfBytes(b)) {
		t.Errorf("P203: %s: Encode = %x, want %x", what, l, wordsOfBytes(b))
	}
	if want == api.OK {
		return
	}
	if f, from, newest, e := bundle.Open(b); e != want || !alikeFrames(f, api.Frame{}) || from != 0 || newest {
		t.Errorf("P206: %s: Open = %+v, %d, %v, %d, want %d", what, f, from, newest, e, want)
	}
	if c, e := bundle.Hop(b); e != want || !empty(c) {
		t.Errorf("P207: %s: Hop = %+v, %d, want %d", what, c, e, want)
	}
	if c, e := bundle.Aged(b, 1); e != want || !empty(c) {
		t.Errorf("P207: %s: Aged = %+v, %d, want %d", what, c, e, want)
	}
}

func TestFlagsAndTypes(t *testing.T) {
	if bundle.Streamed != 1 || bundle.Newest != 2 || bundle.Wanted != 4 {
		t.Error("P206: flags")
	}
	if bundle.PayloadType != 1 || bundle.PreviousType != 6 || bundle.AgeType != 7 || bundle.HopType != 10 {
		t.Error("P202: types")
	}
}

func TestGoodFieldByField(t *testing.T) {
	cases := []struct {
		what string
		turn func(b *bundle.Bundle)
		want api.Errno
	}{
		{"nothing in it", func(b *bundle.Bundle) { *b = bundle.Bundle{} }, api.OK},
		{"Flags 7", func(b *bundle.Bundle) { b.Flags = 7 }, api.OK},
		{"Flags 8", func(b *bundle.Bundle) { b.Flags = 8 }, api.ErrBundle},
		{"Flags 2^64 - 1", func(b *bundle.Bundle) { b.Flags = math.MaxUint64 }, api.ErrBundle},
		{"Type 1", func(b *bundle.Bundle) { b.Blocks[2].Type = 1 }, api.ErrBundle},
		{"Type 0", func(b *bundle.Bundle) { b.Blocks[2].Type = 0 }, api.ErrBundle},
		{"Type 2", func(b *bundle.Bundle) { b.Blocks[2].Type = 2 }, api.OK},
		{"Type 255", func(b *bundle.Bundle) { b.Blocks[2].Type = 255 }, api.OK},
		{"Type 256", func(b *bundle.Bundle) { b.Blocks[2].Type = 256 }, api.ErrBundle},
		{"Type 256 + 10", func(b *bundle.Bundle) { b.Blocks[0].Type = 266 }, api.ErrBundle},
		{"Number 0", func(b *bundle.Bundle) { b.Blocks[2].Number = 0 }, api.ErrBundle},
		{"Number 1", func(b *bundle.Bundle) { b.Blocks[2].Number = 1 }, api.ErrBundle},
		{"Number 255", func(b *bundle.Bundle) { b.Blocks[2].Number = 255 }, api.OK},
		{"Number 256", func(b *bundle.Bundle) { b.Blocks[2].Number = 256 }, api.ErrBundle},
		{"a block's Flags 255", func(b *bundle.Bundle) { b.Blocks[2].Flags = 255 }, api.OK},
		{"a block's Flags 256", func(b *bundle.Bundle) { b.Blocks[2].Flags = 256 }, api.ErrBundle},
		{"Data of 64 bytes", func(b *bundle.Bundle) { b.Blocks[2].Data = make([]byte, 64) }, api.OK},
		{"Data of 65 bytes", func(b *bundle.Bundle) { b.Blocks[2].Data = make([]byte, 65) }, api.ErrBundle},
		{"Data of 70000 bytes", func(b *bundle.Bundle) { b.Blocks[2].Data = make([]byte, 70000) }, api.ErrBundle},
		{"a Payload of 512 bytes", func(b *bundle.Bundle) { b.Payload = make([]byte, 512) }, api.OK},
		{"a Payload of 513 bytes", func(b *bundle.Bundle) { b.Payload = make([]byte, 513) }, api.ErrBundle},
		{"two with one Number", func(b *bundle.Bundle) { b.Blocks[2].Number = b.Blocks[0].Number }, api.ErrBundle},
		{"neighbours with one Number", func(b *bundle.Bundle) { b.Blocks[2].Number = b.Blocks[1].Number }, api.ErrBundle},
		{"two of Type 200", func(b *bundle.Bundle) { b.Blocks = append(b.Blocks, bundle.Block{Type: 200, Number: 9}) }, api.OK},
		{"two of PreviousType", func(b *bundle.Bundle) {
			b.Blocks[2] = bundle.Block{Type: 6, Number: 30, Data: []byte{1, 2}}
			b.Blocks = append(b.Blocks, bundle.Block{Type: 6, Number: 9, Data: []byte{1, 2}})
		}, api.ErrBundle},
		{"two of AgeType", func(b *bundle.Bundle) { b.Blocks[2] = bundle.Block{Type: 7, Number: 30, Data: []byte{1}} }, api.ErrBundle},
		{"two of HopType", func(b *bundle.Bundle) { b.Blocks[2] = bundle.Block{Type: 10, Number: 30, Data: []byte{1, 1}} }, api.ErrBundle},
		{"one of each of the three", func(b *bundle.Bundle) { b.Blocks[2] = bundle.Block{Type: 6, Number: 30, Data: []byte{1, 2}} }, api.OK},
	}
	for _, c := range cases {
		b := wrapped(t)
		b.Blocks = append(b.Blocks, bundle.Block{Type: 200, Number: 77})
		c.turn(&b)
		all(t, c.what, b, c.want)
	}
}

func TestGoodNumbers(t *testing.T) {
	fields := func(b *bundle.Bundle) []*uint64 {
		return []*uint64{&b.Dest.Node, &b.Dest.Service, &b.Source.Node, &b.Source.Service, &b.ReportTo.Node, &b.ReportTo.Service, &b.Stamp.Time, &b.Stamp.Seq, &b.Life}
	}
	for i := range 9 {
		b := wrapped(t)
		for n, want := range map[uint64]api.Errno{0: api.OK, api.MaxNumber: api.OK, tooGreat: api.ErrBundle, math.MaxUint64: api.ErrBundle} {
			*fields(&b)[i] = n
			all(t, "a number's edge", b, want)
		}
	}
}

func TestGoodCountOfBlocks(t *testing.T) {
	for _, n := range []int{0, 1, 7, 8, 9, 10, 5000} {
		b, want := bundle.Bundle{}, api.OK
		for i := range n {
			b.Blocks = append(b.Blocks, bundle.Block{Type: 200, Number: uint64(2 + i)})
		}
		if n > 8 {
			want = api.ErrBundle
		}
		all(t, "blocks", b, want)
	}
}

func TestDataByType(t *testing.T) {
	const top, above = "bf ff ff ff ff ff 7f", "c0 80 80 80 80 80 00"
	cases := []struct {
		kind uint64
		data string
		want bool
	}{
		{6, "00 00", true}, {6, "82 2c 05", true}, {6, top + top, true}, {6, "", false}, {6, "05", false}, {6, "05 06 00", false}, {6, "80 01 05", false}, {6, "05 80 01", false}, {6, "05 81", false}, {6, above + "00", false}, {6, "00" + above, false},
		{7, "00", true}, {7, "81 48", true}, {7, top, true}, {7, above, false}, {7, "", false}, {7, "80 01", false}, {7, "05 00", false}, {7, "81", false},
		{10, "01 00", true}, {10, "01 01", true}, {10, "08 07", true}, {10, "81 7f 81 7f", true}, {10, "81 7f 00", true}, {10, "82 00 00", false}, {10, "00 00", false}, {10, "03 04", false}, {10, "81 00 81 01", false}, {10, "", false}, {10, "03", false}, {10, "03 02 00", false}, {10, "80 03 02", false}, {10, "03 80 02", false}, {10, "03 81", false},
		{2, "", true}, {2, "80 01", true}, {5, "05 00", true}, {8, "", true}, {9, "03 04", true}, {11, "00 00", true}, {255, "ff", true},
	}
	for _, c := range cases {
		b := bundle.Bundle{Blocks: []bundle.Block{{Type: c.kind, Number: 2, Data: raw(t, c.data)}}}
		want := api.OK
		if !c.want {
			want = api.ErrBundle
		}
		all(t, "Data "+c.data, b, want)
		if _, e := bundle.Decode(wordsOfBytes(b)); e != want {
			t.Errorf("P204: type %d, Data %s: Decode = %d, want %d", c.kind, c.data, e, want)
		}
	}
}

func TestSize(t *testing.T) {
	for _, x := range []bundle.Block{{Type: 10, Number: 2, Data: []byte{3, 1}}, {Type: 7, Number: 3, Data: []byte{0}}, {Type: 44, Number: 4}} {
		all(t, "1024 bytes", sized(t, 1024, x), api.OK)
		all(t, "1025 bytes", sized(t, 1025, x), api.ErrSize)
		if _, e := bundle.Decode(wordsOfBytes(sized(t, 1024, x))); e != api.OK {
			t.Errorf("P204: 1024 bytes: %d", e)
		}
		if y, e := bundle.Decode(wordsOfBytes(sized(t, 1025, x))); e != api.ErrSize || !empty(y) {
			t.Errorf("P204: 1025 bytes: %d", e)
		}
	}
	b := bundle.Bundle{Payload: make([]byte, 512)}
	for i := range 8 {
		b.Blocks = append(b.Blocks, bundle.Block{Type: 200, Number: uint64(2 + i), Data: make([]byte, 64)})
	}
	all(t, "the chapter's eight blocks", b, api.ErrSize)
	b.Flags = 8
	all(t, "too many bytes, and not good", b, api.ErrBundle)
	if _, e := bundle.Decode(bytes.Repeat([]byte{7}, 1025)); e != api.ErrSize {
		t.Errorf("P204: 1025 bytes that are none: %d", e)
	}
}

// Each fault, and behind it another one: the first is the answer.
func TestDecodeFirstFault(t *testing.T) {
	const head = "06 01 02 03 04 05 06 07 08 09 0a"
	cases := []struct {
		bytes string
		want  api.Errno
	}{
		{"", api.ErrShort}, {"07", api.ErrBundle}, {"80", api.ErrBundle}, {"86 01", api.ErrBundle}, {"06", api.ErrShort}, {"07 80 01", api.ErrBundle},
		{"06 08", api.ErrBundle}, {"06 80", api.ErrShort}, {"06 80 01", api.ErrNumber}, {"06 c0 80 80 80 80 80 00", api.ErrNumber}, {"06 bf ff ff ff ff ff 7f", api.ErrBundle},
		{"06 01 c0 80 80 80 80 80 00", api.ErrNumber}, {"06 01 bf ff ff ff ff ff 7f", api.ErrShort},
		{head, api.ErrShort}, {head + "00", api.ErrShort}, {head + "00 00", api.OK}, {head + "00 00 00", api.ErrRest}, {head + "00 01", api.ErrShort}, {head + "00 01 07", api.OK},
		{head + "08", api.ErrShort}, {head + "09", api.ErrBundle}, {head + "09 80 01", api.ErrBundle}, {head + "c0 80 80 80 80 80 00", api.ErrNumber}, {head + "bf ff ff ff ff ff 7f", api.ErrBundle},
		{head + "01 01", api.ErrBundle}, {head + "01 00 00 00", api.ErrBundle}, {head + "01 02", api.ErrShort}, {head + "01 82 00", api.ErrBundle}, {head + "01 80 01", api.ErrNumber},
		{head + "01 02 01", api.ErrBundle}, {head + "01 02 80 02", api.ErrNumber}, {head + "01 02 82 00", api.ErrBundle}, {head + "01 02 02", api.ErrShort},
		{head + "01 02 02 82 00", api.ErrBundle}, {head + "01 02 02 81 7f", api.ErrShort}, {head + "01 02 02 80 00", api.ErrNumber},
		{head + "01 02 02 00 41", api.ErrNumber}, {head + "01 02 02 00 40", api.ErrShort}, {head + "01 02 02 00 01", api.ErrShort}, {head + "01 02 02 00 00", api.ErrShort}, {head + "01 02 02 00 00 00", api.OK},
		{head + "01 07 02 00 00", api.ErrBundle}, {head + "01 07 02 00 01", api.ErrShort}, {head + "01 07 02 00 41 00", api.ErrNumber}, {head + "01 07 02 00 02 05 00", api.ErrBundle},
		{head + "02 07 02 00 01 05 07", api.ErrBundle}, {head + "02 07 02 00 01 05 07 02", api.ErrBundle}, {head + "02 0b 02 00 00 0b", api.ErrShort}, {head + "02 0b 02 00 00 0b 02", api.ErrBundle}, {head + "02 0b 02 00 00 0b 02 82 00", api.ErrBundle}, {head + "02 0b 02 00 00 0b 03 00 00 00", api.OK},
		{head + "02 06 02 00 02 01 02 06", api.ErrBundle}, {head + "02 0a 02 00 02 03 02 0a", api.ErrBundle},
		{head + "00 84 01", api.ErrNumber}, {head + "00 84 00", api.ErrShort}, {head + "00 80 01", api.ErrNumber}, {head + "00 81", api.ErrShort},
	}
	for _, c := range cases {
		b := raw(t, c.bytes)
		x, e := bundle.Decode(b)
		want, f := wordsOfDecode(b)
		if e != c.want || f != c.want || !alike(x, want) {
			t.Errorf("P204: Decode(%s) = %+v, %d, want %d (the words: %d)", c.bytes, x, e, c.want, f)
		}
	}
}

// Bytes that are a bundle's, or near to one's.
func TestDecodeAsTheWordsSay(t *testing.T) {
	r := chance()
	seen := map[api.Errno]int{}
	for range 20000 {
		b := wordsOfBytes(someBundle(r))
		for range r.Intn(3) {
			i := r.Intn(min(len(b), 80))
			switch r.Intn(4) {
			case 0:
				b[i] = byte(r.Intn(256))
			case 1:
				b[i] = []byte{0, 1, 2, 6, 7, 8, 9, 10, 127, 128, 129, 255}[r.Intn(12)]
			case 2:
				b = b[:r.Intn(len(b))+1]
			case 3:
				b = append(b[:i:i], append([]byte{byte(r.Intn(256))}, b[i:]...)...)
			}
		}
		x, e := bundle.Decode(b)
		want, f := wordsOfDecode(b)
		seen[e]++
		if e != f || !alike(x, want) {
			t.Fatalf("P204: Decode(%x) = %+v, %d, want %+v, %d", b, x, e, want, f)
		}
		if e == api.OK {
			if again, g := bundle.Encode(x); g != api.OK || !bytes.Equal(again, b) {
				t.Fatalf("P205: Encode of what Decode(%x) answers = %x, %d", b, again, g)
			}
		}
	}
	for _, e := range []api.Errno{api.OK, api.ErrShort, api.ErrRest, api.ErrNumber, api.ErrBundle, api.ErrSize} {
		if seen[e] < 50 {
			t.Errorf("only %d answers were %d", seen[e], e)
		}
	}
}

func TestEveryFrontIsShort(t *testing.T) {
	b := raw(t, wrappedText)
	for i := range b {
		if x, e := bundle.Decode(b[:i]); e != api.ErrShort || !empty(x) {
			t.Errorf("P204: Decode of the first %d bytes: %+v, %d", i, x, e)
		}
	}
}

func TestThereAndBackAsBytes(t *testing.T) {
	r := chance()
	took := 0
	for range 4000 {
		b := someBundle(r)
		if !wordsOfGood(b) {
			t.Fatalf("a bundle that was to be good: %+v", b)
		}
		want := api.OK
		if len(wordsOfBytes(b)) > 1024 {
			want = api.ErrSize
		}
		all(t, "some bundle", b, want)
		if want != api.OK {
			continue
		}
		took++
		l, _ := bundle.Encode(b)
		if c, e := bundle.Decode(l); e != api.OK || !alike(c, b) {
			t.Fatalf("P205: Decode(Encode(%+v)) = %+v, %d", b, c, e)
		}
	}
	if took < 1000 {
		t.Errorf("only %d bundles were taken", took)
	}
}

// One field of a good bundle is turned to a value at an edge: Valid says what the words say.
func TestValidAsTheWordsSay(t *testing.T) {
	r := chance()
	edges := []uint64{0, 1, 2, 6, 7, 8, 10, 255, 256, api.MaxNumber, tooGreat, math.MaxUint64}
	for range 20000 {
		b := someBundle(r)
		fields := []*uint64{&b.Flags, &b.Dest.Node, &b.Dest.Service, &b.Source.Node, &b.Source.Service, &b.ReportTo.Node, &b.ReportTo.Service, &b.Stamp.Time, &b.Stamp.Seq, &b.Life}
		for i := range b.Blocks {
			x := &b.Blocks[i]
			fields = append(fields, &x.Type, &x.Number, &x.Flags)
		}
		*fields[r.Intn(len(fields))] = edges[r.Intn(len(edges))]
		want := api.OK
		if len(wordsOfBytes(b)) > 1024 {
			want = api.ErrSize
		}
		if !wordsOfGood(b) {
			want = api.ErrBundle
		}
		if e := bundle.Valid(b); e != want {
			t.Fatalf("P202: Valid(%+v) = %d, want %d", b, e, want)
		}
	}
}

func TestFind(t *testing.T) {
	b := bundle.Bundle{Flags: 99, Payload: []byte{1, 2}, Blocks: []bundle.Block{
		{Type: 7, Number: 2, Flags: 3, Data: []byte{4}},
		{Type: 200, Number: 5, Flags: 6, Data: make([]byte, 100)},
		{Type: 7, Number: 8, Flags: 9, Data: []byte{10}},
		{Type: math.MaxUint64, Number: 2},
		{Type: 0, Number: 11},
	}}
	for kind, want := range map[uint64]int{7: 0, 200: 1, math.MaxUint64: 3, 0: 4} {
		x, ok := bundle.Find(b, kind)
		w := b.Blocks[want]
		if !ok || x.Type != w.Type || x.Number != w.Number || x.Flags != w.Flags || !bytes.Equal(x.Data, w.Data) {
			t.Errorf("P208: Find %d = %+v, %v", kind, x, ok)
		}
	}
	for _, kind := range []uint64{1, 6, 10, 263, math.MaxUint64 - 1} {
		if x, ok := bundle.Find(b, kind); ok || x.Type != 0 || x.Number != 0 || x.Flags != 0 || len(x.Data) != 0 {
			t.Errorf("P208: Find %d, which is not there = %+v, %v", kind, x, ok)
		}
	}
	b.Blocks = append(b.Blocks, bundle.Block{Type: bundle.PayloadType, Number: 4})
	if x, ok := bundle.Find(b, bundle.PayloadType); !ok || x.Number != 4 {
		t.Errorf("P208: Find of a block with the payload's type = %+v, %v", x, ok)
	}
	if _, ok := bundle.Find(bundle.Bundle{}, 0); ok {
		t.Error("P208: Find in nothing")
	}
}

func TestExamplesOfBytes(t *testing.T) {
	b := wrapped(t)
	l, e := bundle.Encode(b)
	if e != api.OK || len(l) != 28 || !bytes.Equal(l, raw(t, wrappedText)) {
		t.Fatalf("P203: Encode = %x, %d", l, e)
	}
	turned := func(at int, c byte) []byte {
		x := bytes.Clone(l)
		x[at] = c
		return x
	}
	for _, c := range []struct {
		bytes []byte
		want  api.Errno
	}{{l, api.OK}, {l[:27], api.ErrShort}, {append(bytes.Clone(l), 0), api.ErrRest}, {turned(0, 7), api.ErrBundle}, {turned(1, 0x80), api.ErrNumber}, {turned(1, 8), api.ErrBundle}} {
		x, e := bundle.Decode(c.bytes)
		if e != c.want || e == api.OK && !alike(x, b) || e != api.OK && !empty(x) {
			t.Errorf("P204: Decode(%x) = %+v, %d, want %d", c.bytes, x, e, c.want)
		}
	}
	if octet.CRC(l) != octet.CRC(raw(t, wrappedText)) {
		t.Error("P201: the bytes changed")
	}
}
