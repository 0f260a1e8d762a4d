package bundle_test

import (
	"bytes"
	"math"
	"math/rand"
	"testing"

	"halyard/api"
	"halyard/bundle"
	"halyard/octet"
)

func someFrame(r *rand.Rand) api.Frame {
	return api.Frame{Stream: r.Intn(api.MaxStreams), Stamp: api.Stamp{Time: someNumber(r), Seq: someNumber(r)}, Life: someNumber(r), Data: someBytes(r, []int{0, 1, 5, 127, 128, 511, 512}[r.Intn(7)])}
}

// wordsOfWrap: P206's sentence on the bundle.
func wordsOfWrap(f api.Frame, from, to uint64, newest bool) bundle.Bundle {
	b := bundle.Bundle{Flags: 5, Stamp: f.Stamp, Life: f.Life, Payload: f.Data}
	if newest {
		b.Flags = 7
	}
	b.Dest.Node, b.Dest.Service = to, uint64(f.Stream)
	b.Source.Node, b.Source.Service = from, uint64(f.Stream)
	b.ReportTo.Node, b.ReportTo.Service = from, 0
	b.Blocks = []bundle.Block{{Type: 10, Number: 2, Data: []byte{8, 0}}, {Type: 7, Number: 3, Data: []byte{0}}}
	return b
}

func opens(t *testing.T, what string, b bundle.Bundle, f api.Frame, from uint64, newest bool) {
	t.Helper()
	g, node, n, e := bundle.Open(b)
	if e != api.OK || !alikeFrames(f, g) || node != from || n != newest {
		t.Errorf("P206, P209: %s: Open = %+v, %d, %v, %d; want %+v, %d, %v", what, g, node, n, e, f, from, newest)
	}
}

func TestWrapThereAndBack(t *testing.T) {
	r := chance()
	for range 3000 {
		f, from, to, newest := someFrame(r), someNumber(r), someNumber(r), r.Intn(2) == 0
		b, e := bundle.Wrap(f, from, to, newest)
		if e != api.OK || !alike(b, wordsOfWrap(f, from, to, newest)) {
			t.Fatalf("P206: Wrap(%+v, %d, %d, %v) = %+v, %d", f, from, to, newest, b, e)
		}
		opens(t, "as it was wrapped", b, f, from, newest)
		hops := 0
		for range 12 {
			c, e := bundle.Hop(b)
			if r.Intn(2) == 0 {
				c, e = bundle.Aged(b, someNumber(r))
			} else if e == api.OK {
				hops++
			} else if e != api.ErrEnd || hops != 8 {
				t.Fatalf("P210: Hop %d = %d", hops+1, e)
			}
			if e == api.OK {
				b = c
			}
			opens(t, "on its way", b, f, from, newest)
		}
		l, e := bundle.Encode(b)
		if e != api.OK {
			t.Fatalf("P209: Encode = %d", e)
		}
		c, e := bundle.Decode(l)
		if e != api.OK {
			t.Fatalf("P209: Decode = %d", e)
		}
		opens(t, "as it was read", c, f, from, newest)
	}
}

func TestWrapAtTheEdges(t *testing.T) {
	f := api.Frame{Stream: api.MaxStreams - 1, Stamp: api.Stamp{Time: api.MaxNumber, Seq: api.MaxNumber}, Life: api.MaxNumber, Data: make([]byte, api.MaxData)}
	b, e := bundle.Wrap(f, api.MaxNumber, api.MaxNumber, false)
	if e != api.OK || bundle.Valid(b) != api.OK {
		t.Fatalf("P206, P209: the greatest frame: %d", e)
	}
	opens(t, "the greatest frame", b, f, api.MaxNumber, false)
	b, e = bundle.Wrap(api.Frame{}, 0, 0, true)
	if e != api.OK || !alike(b, wordsOfWrap(api.Frame{}, 0, 0, true)) {
		t.Fatalf("P206, P209: the least frame: %+v, %d", b, e)
	}
	opens(t, "the least frame", b, api.Frame{}, 0, true)
}

func TestWrapRefuses(t *testing.T) {
	long := make([]byte, api.MaxData+1)
	for _, c := range []struct {
		what     string
		turn     func(f *api.Frame)
		from, to uint64
		want     api.Errno
	}{
		{"stream 8", func(f *api.Frame) { f.Stream = 8 }, 4, 5, api.ErrArg},
		{"stream -1", func(f *api.Frame) { f.Stream = -1 }, 4, 5, api.ErrArg},
		{"the least stream", func(f *api.Frame) { f.Stream = math.MinInt }, 4, 5, api.ErrArg},
		{"the greatest stream", func(f *api.Frame) { f.Stream = math.MaxInt }, 4, 5, api.ErrArg},
		{"a time", func(f *api.Frame) { f.Stamp.Time = tooGreat }, 4, 5, api.ErrArg},
		{"a number", func(f *api.Frame) { f.Stamp.Seq = tooGreat }, 4, 5, api.ErrArg},
		{"a life", func(f *api.Frame) { f.Life = tooGreat }, 4, 5, api.ErrArg},
		{"the greatest life", func(f *api.Frame) { f.Life = math.MaxUint64 }, 4, 5, api.ErrArg},
		{"from", func(f *api.Frame) {}, tooGreat, 5, api.ErrArg},
		{"to", func(f *api.Frame) {}, 4, tooGreat, api.ErrArg},
		{"513 bytes", func(f *api.Frame) { f.Data = long }, 4, 5, api.ErrSize},
		{"stream 8 and 513 bytes", func(f *api.Frame) { f.Stream, f.Data = 8, long }, 4, 5, api.ErrArg},
		{"to and 513 bytes", func(f *api.Frame) { f.Data = long }, 4, tooGreat, api.ErrArg},
	} {
		f := frame()
		c.turn(&f)
		for _, newest := range []bool{false, true} {
			if b, e := bundle.Wrap(f, c.from, c.to, newest); e != c.want || !empty(b) {
				t.Errorf("P206: %s: Wrap = %+v, %d, want %d", c.what, b, e, c.want)
			}
		}
	}
}

func TestOpen(t *testing.T) {
	for _, c := range []struct {
		what string
		turn func(b *bundle.Bundle)
		want api.Errno
	}{
		{"Flags 6", func(b *bundle.Bundle) { b.Flags = 6 }, api.ErrFrame},
		{"Flags 0", func(b *bundle.Bundle) { b.Flags = 0 }, api.ErrFrame},
		{"Flags 8", func(b *bundle.Bundle) { b.Flags = 8 }, api.ErrBundle},
		{"Flags 9", func(b *bundle.Bundle) { b.Flags = 9 }, api.ErrBundle},
		{"Dest's Service 2", func(b *bundle.Bundle) { b.Dest.Service = 2 }, api.ErrFrame},
		{"Source's Service 2", func(b *bundle.Bundle) { b.Source.Service = 2 }, api.ErrFrame},
		{"both Services 8", func(b *bundle.Bundle) { b.Dest.Service, b.Source.Service = 8, 8 }, api.ErrFrame},
		{"both Services at the end", func(b *bundle.Bundle) { b.Dest.Service, b.Source.Service = api.MaxNumber, api.MaxNumber }, api.ErrFrame},
		{"no frame, and no bundle", func(b *bundle.Bundle) { b.Dest.Service, b.Blocks[0].Flags = 2, 256 }, api.ErrBundle},
	} {
		b := wrapped(t)
		c.turn(&b)
		if f, from, newest, e := bundle.Open(b); e != c.want || !alikeFrames(f, api.Frame{}) || from != 0 || newest {
			t.Errorf("P206: %s: Open = %+v, %d, %v, %d, want %d", c.what, f, from, newest, e, c.want)
		}
	}
}

// What Open does not look at may be anything that is good.
func TestOpenLooksAtLittle(t *testing.T) {
	b := wrapped(t)
	b.Flags, b.Dest.Node, b.ReportTo, b.Blocks = bundle.Streamed, 77, bundle.EID{Node: 8, Service: 9}, nil
	opens(t, "bare", b, frame(), 4, false)
	b.Flags = bundle.Streamed | bundle.Newest
	opens(t, "bare and newest", b, frame(), 4, true)
	b.Flags = bundle.Streamed | bundle.Wanted
	opens(t, "bare and wanted", b, frame(), 4, false)
	b.Flags, b.Blocks = 7, []bundle.Block{{Type: 10, Number: 9, Data: []byte{3, 3}}, {Type: 44, Number: 3, Data: []byte("x")}}
	opens(t, "with other blocks", b, frame(), 4, true)
	for stream := range uint64(api.MaxStreams) {
		b.Dest.Service, b.Source.Service = stream, stream
		f := frame()
		f.Stream = int(stream)
		opens(t, "each stream", b, f, 4, true)
	}
}

func TestHops(t *testing.T) {
	b := wrapped(t)
	for i := range 8 {
		c, e := bundle.Hop(b)
		want := wrapped(t)
		want.Blocks[0].Data = []byte{8, byte(i + 1)}
		if e != api.OK || !alike(c, want) {
			t.Fatalf("P207, P210: Hop %d = %+v, %d", i+1, c, e)
		}
		b = c
	}
	if c, e := bundle.Hop(b); e != api.ErrEnd || !empty(c) {
		t.Errorf("P210: the ninth Hop = %+v, %d", c, e)
	}
	if c, e := bundle.Aged(b, 3); e != api.OK || !bytes.Equal(c.Blocks[0].Data, []byte{8, 8}) {
		t.Errorf("P207: Aged behind the last Hop = %+v, %d", c, e)
	}
}

// The count goes through all of its sizes, and the other blocks stay, ahead of it and behind it.
func TestHopsToTheEnd(t *testing.T) {
	b := bundle.Bundle{Blocks: []bundle.Block{{Type: 7, Number: 5, Flags: 1, Data: []byte{9}}, {Type: 10, Number: 200, Flags: 255, Data: raw(t, "81 7f 00")}, {Type: 200, Number: 4, Flags: 2, Data: []byte("abc")}, {Type: 200, Number: 2}}, Payload: []byte{1}}
	want := plain(b)
	for i := range uint64(255) {
		c, e := bundle.Hop(b)
		want.Blocks[1].Data = octet.AppendNumber([]byte{0x81, 0x7f}, i+1)
		if e != api.OK || !alike(c, want) {
			t.Fatalf("P207: Hop %d = %+v, %d", i+1, c, e)
		}
		b = c
	}
	if _, e := bundle.Hop(b); e != api.ErrEnd {
		t.Errorf("P207: Hop 256 = %d", e)
	}
}

func TestAged(t *testing.T) {
	const most = uint64(api.MaxNumber)
	for _, c := range []struct {
		age, ticks uint64
		want       api.Errno
	}{
		{0, 0, api.OK}, {0, 200, api.OK}, {5, 0, api.OK}, {100, 28, api.OK}, {0, most, api.OK}, {most, 0, api.OK}, {most - 7, 7, api.OK},
		{most, 1, api.ErrEnd}, {most - 7, 8, api.ErrEnd}, {1, most, api.ErrEnd}, {0, most + 1, api.ErrEnd}, {0, math.MaxUint64, api.ErrEnd}, {1, math.MaxUint64, api.ErrEnd}, {7, math.MaxUint64 - 3, api.ErrEnd}, {most, math.MaxUint64, api.ErrEnd}, {most, math.MaxUint64 - most + 1, api.ErrEnd},
	} {
		b := wrapped(t)
		b.Blocks[1].Data = octet.AppendNumber(nil, c.age)
		b.Blocks = append(b.Blocks, bundle.Block{Type: 6, Number: 8, Flags: 3, Data: []byte{1, 2}})
		want := plain(b)
		want.Blocks[1].Data = octet.AppendNumber(nil, c.age+c.ticks)
		if c.want != api.OK {
			want = bundle.Bundle{}
		}
		if x, e := bundle.Aged(b, c.ticks); e != c.want || !alike(x, want) {
			t.Errorf("P207: %d aged by %d = %+v, %d, want %d", c.age, c.ticks, x, e, c.want)
		}
	}
	b, e := bundle.Aged(wrapped(t), 200)
	if e != api.OK || !bytes.Equal(b.Blocks[1].Data, raw(t, "81 48")) {
		t.Errorf("P207: the example's age: %+v, %d", b, e)
	}
}

func TestNoSuchBlock(t *testing.T) {
	for _, l := range [][]bundle.Block{nil, {}, {{Type: 200, Number: 2}}, {{Type: 6, Number: 2, Data: []byte{0, 0}}}} {
		b := bundle.Bundle{Blocks: l}
		if c, e := bundle.Hop(b); e != api.ErrNone || !empty(c) {
			t.Errorf("P207: Hop without a block = %+v, %d", c, e)
		}
		for _, ticks := range []uint64{0, 1, math.MaxUint64} {
			if c, e := bundle.Aged(b, ticks); e != api.ErrNone || !empty(c) {
				t.Errorf("P207: Aged without a block = %+v, %d", c, e)
			}
		}
	}
	b := wrapped(t)
	b.Blocks = b.Blocks[:1]
	if _, e := bundle.Aged(b, 1); e != api.ErrNone {
		t.Errorf("P207: Aged with a block of HopType alone: %d", e)
	}
	b = wrapped(t)
	b.Blocks = b.Blocks[1:]
	if _, e := bundle.Hop(b); e != api.ErrNone {
		t.Errorf("P207: Hop with a block of AgeType alone: %d", e)
	}
}

// A count or an age that takes one byte more has no room at MaxBlock bytes.
func TestNoRoomToGrow(t *testing.T) {
	hop, age := lastSmall()
	if c, e := bundle.Hop(sized(t, 1024, hop)); e != api.ErrSize || !empty(c) {
		t.Errorf("P207: Hop at 1024 bytes = %d", e)
	}
	if c, e := bundle.Hop(sized(t, 1023, hop)); e != api.OK || len(wordsOfBytes(c)) != 1024 {
		t.Errorf("P207: Hop at 1023 bytes = %d", e)
	}
	hop.Data = []byte{3, 3}
	if c, e := bundle.Hop(sized(t, 1024, hop)); e != api.ErrEnd || !empty(c) {
		t.Errorf("P207: the last Hop at 1024 bytes = %d", e)
	}
	b := sized(t, 1024, age)
	for ticks, want := range map[uint64]api.Errno{0: api.OK, 1: api.ErrSize, api.MaxNumber - 127: api.ErrSize, api.MaxNumber: api.ErrEnd} {
		if c, e := bundle.Aged(b, ticks); e != want || e != api.OK && !empty(c) {
			t.Errorf("P207: Aged by %d at 1024 bytes = %d, want %d", ticks, e, want)
		}
	}
	if c, e := bundle.Aged(sized(t, 1023, age), 1); e != api.OK || len(wordsOfBytes(c)) != 1024 {
		t.Errorf("P207: Aged at 1023 bytes = %d", e)
	}
}
