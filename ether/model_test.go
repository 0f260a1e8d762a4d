package ether_test

import (
	"bytes"
	"math/rand"
	"slices"
	"testing"

	"halyard/api"
	"halyard/ether"
	"halyard/octet"
)

// plain: a way as the chapter's sentences tell it; each datagram knows what was put, and the burst that it went through.
type plain struct {
	room int
	row  []told
	in   int // how many were put and doubled
	out  int // how many were taken and dropped
}

type told struct {
	put  []byte
	at   int
	mask uint32 // 0: it was not turned
}

// now: its bytes as they are.
func (d told) now() []byte {
	b := bytes.Clone(d.put)
	for j := range 32 {
		if d.mask>>j&1 == 1 {
			b[(d.at+j)/8] ^= 1 << ((d.at + j) % 8)
		}
	}
	return b
}

func (d told) wrong(at int, mask uint32) bool {
	for j := range 32 {
		if mask>>j&1 == 1 && (at+j < 0 || at+j >= 8*len(d.put)) {
			return true
		}
	}
	return mask == 0
}

func (p *plain) add(d told) api.Errno {
	if len(d.put) > 2048 {
		return api.ErrSize
	}
	if len(p.row) == p.room {
		return api.ErrFull
	}
	p.row = append(p.row, d)
	p.in++
	return api.OK
}

func (p *plain) has(i int) bool { return i >= 0 && i < len(p.row) }

func (p *plain) lose(i int) api.Errno {
	if !p.has(i) {
		return api.ErrNone
	}
	p.row = slices.Delete(p.row, i, i+1)
	p.out++
	return api.OK
}

func (p *plain) turn(i, at int, mask uint32) api.Errno {
	if !p.has(i) {
		return api.ErrNone
	}
	if p.row[i].wrong(at, mask) {
		return api.ErrArg
	}
	if p.row[i].mask != 0 {
		return api.ErrTwice
	}
	p.row[i].at, p.row[i].mask = at, mask
	return api.OK
}

// call: one call, with what it takes.
type call struct {
	kind  string
	i, at int
	mask  uint32
	b     []byte
}

// both: the way and the plain one, called alike.
type both struct {
	t    *testing.T
	w    *ether.Way
	p    *plain
	done []call
}

func start(t *testing.T, room int) *both {
	return &both{t: t, w: way(t, room), p: &plain{room: room}}
}

// do: the call on both; what they answer, and what is on them then, is the same.
func (x *both) do(c call) {
	x.t.Helper()
	x.done = append(x.done, c)
	var got, want api.Errno
	var text, told []byte
	switch c.kind {
	case "put":
		got, want = x.w.Put(c.b), x.p.add(asPut(c.b))
	case "look":
		text, got = x.w.Look(c.i)
		told, want = x.look(c.i)
	case "take":
		told, _ = x.look(c.i)
		text, got = x.w.Take(c.i)
		want = x.p.lose(c.i)
	case "drop":
		got, want = x.w.Drop(c.i), x.p.lose(c.i)
	case "double":
		got, want = x.w.Double(c.i), api.ErrNone
		if x.p.has(c.i) {
			want = x.p.add(x.p.row[c.i])
		}
	case "turn":
		got, want = x.w.Turn(c.i, c.at, c.mask), x.p.turn(c.i, c.at, c.mask)
	}
	if got != want || !bytes.Equal(text, told) {
		x.t.Fatalf("P1103 to P1106: behind %v: %x, %v, want %x, %v", x.done, text, got, told, want)
	}
	x.same()
}

func asPut(b []byte) told { return told{put: bytes.Clone(b)} }

func (x *both) look(i int) ([]byte, api.Errno) {
	if !x.p.has(i) {
		return nil, api.ErrNone
	}
	return x.p.row[i].now(), api.OK
}

func (x *both) same() {
	x.t.Helper()
	if n := x.w.Len(); n != len(x.p.row) || n > x.p.room || n != x.p.in-x.p.out {
		x.t.Fatalf("P1107, P1109: behind %v: Len %d, want %d", x.done, n, len(x.p.row))
	}
	for i, d := range x.p.row {
		if b, e := x.w.Look(i); e != api.OK || !bytes.Equal(b, d.now()) {
			x.t.Fatalf("P1107: behind %v: Look(%d) = %x, %v, want %x", x.done, i, b, e, d.now())
		}
	}
}

// TestEachRowOfCalls: each row of five calls on a way with two datagrams and room for three.
func TestEachRowOfCalls(t *testing.T) {
	calls := []call{
		{kind: "put", b: []byte{4, 4}},
		{kind: "take", i: 0}, {kind: "take", i: 1}, {kind: "drop", i: 0}, {kind: "drop", i: 2},
		{kind: "double", i: 0}, {kind: "double", i: 1}, {kind: "double", i: 2},
		{kind: "turn", i: 0, at: 0, mask: 3}, {kind: "turn", i: 0, at: -1, mask: 2}, {kind: "turn", i: 1, at: 7, mask: 3}, {kind: "turn", i: 2, at: 15, mask: 1}, {kind: "turn", i: 2, at: 15, mask: 3},
	}
	n := 1
	for range 5 {
		n *= len(calls)
	}
	for row := range n {
		x := start(t, 3)
		x.do(call{kind: "put", b: []byte{1, 1}})
		x.do(call{kind: "put", b: []byte{2, 2}})
		for k := row; len(x.done) < 7; k /= len(calls) {
			x.do(calls[k%len(calls)])
		}
	}
}

// someMask: often a few bits, now and then all, none or any.
func someMask(r *rand.Rand) uint32 {
	switch r.Intn(6) {
	case 0:
		return 0
	case 1:
		return 0xffffffff
	case 2:
		return r.Uint32()
	default:
		return uint32(1+r.Intn(7)) << r.Intn(32)
	}
}

func someCall(r *rand.Rand, n int) call {
	kinds := []string{"put", "put", "put", "double", "double", "turn", "turn", "turn", "look", "take", "drop"}
	c := call{kind: kinds[r.Intn(len(kinds))], i: r.Intn(n+2) - 1, at: r.Intn(120) - 40, mask: someMask(r)}
	switch r.Intn(40) {
	case 0:
		c.b = make([]byte, 2047+r.Intn(3))
	default:
		c.b = make([]byte, r.Intn(9))
	}
	r.Read(c.b)
	return c
}

func TestAgainstThePlainOne(t *testing.T) {
	for seed := range int64(600) {
		r := rand.New(rand.NewSource(seed))
		x := start(t, 1+r.Intn(12))
		for range 200 {
			x.do(someCall(r, x.w.Len()))
		}
		x.done = nil
	}
}

// TestASealTells: whatever is done to sealed datagrams, Unseal takes just those that were not turned, and they are as they were put.
func TestASealTells(t *testing.T) {
	good, bad := 0, 0
	for seed := range int64(400) {
		r := rand.New(rand.NewSource(seed))
		x := start(t, 1+r.Intn(20))
		for range 150 {
			c := someCall(r, x.w.Len())
			if c.kind == "take" {
				continue
			}
			c.b = octet.Seal(c.b)
			x.do(c)
		}
		for x.w.Len() > 0 {
			i := r.Intn(x.w.Len())
			d := x.p.row[i]
			b, _ := x.w.Take(i)
			x.p.lose(i)
			text, e := octet.Unseal(b)
			if d.mask != 0 && e == api.OK || d.mask == 0 && (e != api.OK || !bytes.Equal(octet.Seal(text), d.put)) {
				t.Fatalf("P1108: %x was put, turned at %d by %#x, came as %x: %v", d.put, d.at, d.mask, b, e)
			}
			if e == api.OK {
				good++
			} else {
				bad++
			}
		}
	}
	if good < 500 || bad < 500 {
		t.Errorf("P1108: %d good and %d bad ones are too few to tell", good, bad)
	}
}
