package bundle_test

import (
	"bytes"
	"reflect"
	"testing"

	"halyard/api"
	"halyard/bundle"
)

// roomy: the bytes, with room behind them that holds a pattern.
func roomy(x []byte) []byte {
	all := append(bytes.Clone(x), bytes.Repeat([]byte{0xa5}, 40)...)
	return all[:len(x)]
}

// roomyBundle: a bundle whose lists have room behind them.
func roomyBundle(b bundle.Bundle) bundle.Bundle {
	blocks := make([]bundle.Block, len(b.Blocks), len(b.Blocks)+3)
	for i, x := range b.Blocks {
		x.Data = roomy(x.Data)
		blocks[i] = x
	}
	for i := range blocks[len(blocks):cap(blocks)] {
		blocks[:cap(blocks)][len(blocks)+i] = bundle.Block{Type: 99, Data: roomy([]byte{1})}
	}
	b.Blocks, b.Payload = blocks, roomy(b.Payload)
	return b
}

// whole: all that a list can reach.
func whole(x []byte) []byte { return x[:cap(x)] }

// picture: all that can be reached from a bundle, in memory of its own.
func picture(b bundle.Bundle) [][]byte {
	l := [][]byte{bytes.Clone(whole(b.Payload))}
	for _, x := range b.Blocks[:cap(b.Blocks)] {
		l = append(l, []byte{byte(x.Type), byte(x.Number), byte(x.Flags)}, bytes.Clone(whole(x.Data)))
	}
	return l
}

func spoil(x []byte) {
	for i := range whole(x) {
		whole(x)[i] ^= 0xff
	}
}

func spoilBundle(b bundle.Bundle) {
	spoil(b.Payload)
	for i := range b.Blocks[:cap(b.Blocks)] {
		x := &b.Blocks[:cap(b.Blocks)][i]
		spoil(x.Data)
		*x = bundle.Block{Type: 123}
	}
}

// answers: each call's answers: the lists in them, and the bundle, if there is one.
func answers(b bundle.Bundle, f api.Frame, text []byte) map[string]func() bundle.Bundle {
	bare := func(x []byte) bundle.Bundle { return bundle.Bundle{Payload: x} }
	return map[string]func() bundle.Bundle{
		"Encode":     func() bundle.Bundle { x, _ := bundle.Encode(b); return bare(x) },
		"Decode":     func() bundle.Bundle { x, _ := bundle.Decode(text); return x },
		"Wrap":       func() bundle.Bundle { x, _ := bundle.Wrap(f, 4, 5, true); return x },
		"Open":       func() bundle.Bundle { x, _, _, _ := bundle.Open(b); return bare(x.Data) },
		"Hop":        func() bundle.Bundle { x, _ := bundle.Hop(b); return x },
		"Aged":       func() bundle.Bundle { x, _ := bundle.Aged(b, 9); return x },
		"Aged by 0":  func() bundle.Bundle { x, _ := bundle.Aged(b, 0); return x },
		"Find":       func() bundle.Bundle { x, _ := bundle.Find(b, 10); return bare(x.Data) },
		"Find other": func() bundle.Bundle { x, _ := bundle.Find(b, 200); return bare(x.Data) },
		"Valid":      func() bundle.Bundle { bundle.Valid(b); return bundle.Bundle{} },
	}
}

func TestMemory(t *testing.T) {
	given := wordsOfWrap(frame(), 4, 5, true)
	given.Blocks = append(given.Blocks, bundle.Block{Type: 200, Number: 9, Data: []byte{1, 2, 3}}, bundle.Block{Type: 201, Number: 10, Data: []byte{4}})
	b, f := roomyBundle(given), frame()
	f.Data = roomy(f.Data)
	text := roomy(wordsOfBytes(given))
	was, wasData, wasText := picture(b), bytes.Clone(whole(f.Data)), bytes.Clone(whole(text))
	for name, call := range answers(b, f, text) {
		first, second := call(), call()
		want := plain(second)
		spoilBundle(first)
		if !alike(second, want) {
			t.Errorf("P201: %s: an answer shares memory with another", name)
		}
		apart(t, name, second)
		spoilBundle(second)
		if !reflect.DeepEqual(picture(b), was) || !bytes.Equal(whole(f.Data), wasData) || !bytes.Equal(whole(text), wasText) {
			t.Fatalf("P201: %s: what was handed in has changed", name)
		}
		if !alike(call(), want) {
			t.Errorf("P201: %s: called again, it answers otherwise", name)
		}
	}
}

// apart: no two lists of one answer share anything.
func apart(t *testing.T, name string, b bundle.Bundle) {
	t.Helper()
	lists := [][]byte{b.Payload}
	for _, x := range b.Blocks {
		lists = append(lists, x.Data)
	}
	for i := range lists {
		was := make([][]byte, len(lists))
		for j := range lists {
			was[j] = bytes.Clone(lists[j])
		}
		spoil(lists[i])
		for j := range lists {
			if j != i && !bytes.Equal(lists[j], was[j]) {
				t.Errorf("P201: %s: two lists of an answer share memory", name)
			}
		}
		spoil(lists[i])
	}
}

func TestNilAndEmptyMeanTheSame(t *testing.T) {
	bare := bundle.Bundle{Flags: 1, Blocks: []bundle.Block{{Type: 200, Number: 2}, {Type: 10, Number: 3, Data: []byte{3, 1}}}}
	full := plain(bare)
	x, e := bundle.Encode(bare)
	y, g := bundle.Encode(full)
	if e != api.OK || g != api.OK || !bytes.Equal(x, y) {
		t.Errorf("P201: Encode = %x, %d and %x, %d", x, e, y, g)
	}
	b, e := bundle.Hop(bare)
	c, g := bundle.Hop(full)
	if e != api.OK || g != api.OK || !alike(b, c) {
		t.Errorf("P201: Hop = %+v, %d and %+v, %d", b, e, c, g)
	}
	b, e = bundle.Wrap(api.Frame{}, 1, 2, false)
	c, g = bundle.Wrap(api.Frame{Data: []byte{}}, 1, 2, false)
	if e != api.OK || g != api.OK || !alike(b, c) {
		t.Errorf("P201: Wrap = %+v, %d and %+v, %d", b, e, c, g)
	}
	for _, l := range [][]byte{nil, {}} {
		if b, e := bundle.Decode(l); e != api.ErrShort || !empty(b) {
			t.Errorf("P204: Decode of nothing = %+v, %d", b, e)
		}
	}
}
