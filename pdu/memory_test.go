package pdu_test

import (
	"bytes"
	"slices"
	"testing"

	"halyard/api"
	"halyard/octet"
	"halyard/pdu"
)

// roomy: the list, with room behind it that holds a pattern.
func roomy[T any](l []T, pattern T) []T {
	all := slices.Clone(l)
	for range 40 {
		all = append(all, pattern)
	}
	return all[:len(l)]
}

// whole: all that a list can reach.
func whole[T any](l []T) []T { return l[:cap(l)] }

// spoil: writes over all that a list can reach.
func spoil[T any](l []T, pattern T) {
	for i := range whole(l) {
		whole(l)[i] = pattern
	}
}

// answer: the lists that a call answered.
type answer struct {
	bytes  []byte
	ranges []api.Range
}

func (a answer) clone() answer { return answer{bytes.Clone(a.bytes), slices.Clone(a.ranges)} }

func (a answer) is(b answer) bool {
	return bytes.Equal(a.bytes, b.bytes) && slices.Equal(a.ranges, b.ranges)
}

func (a answer) spoil() {
	spoil(a.bytes, 0x5a)
	spoil(a.ranges, api.Range{From: -77, To: -66})
}

func ofUnit(u api.Unit, _ api.Errno) answer { return answer{u.Data, u.Got} }

func ofBytes(b []byte, _ api.Errno) answer { return answer{bytes: b} }

func TestMemory(t *testing.T) {
	pattern := api.Range{From: 50, To: 60}
	for _, ends := range [][]int{{5, 7, 3, 3, 0, 2, 2, 4, 9, 1}, {0, 1, 3, 4}, {0, 1}, {}} {
		d, g := data(), report()
		d.Data = roomy([]byte{5, 6, 7}, 0xa5)
		g.Got = roomy(g.Got, pattern)
		l, m := roomy(list(ends...), pattern), roomy(list(1, 2, 8, 12), pattern)
		dataText := roomy(octet.Seal(wordsOfBytes(d)), 0xa5)
		gotText := roomy(octet.Seal(wordsOfBytes(g)), 0xa5)
		lists := []*[]api.Range{&l, &m, &g.Got}
		texts := []*[]byte{&d.Data, &dataText, &gotText}
		var was answer
		see := func() (a answer) {
			for _, x := range lists {
				a.ranges = append(a.ranges, whole(*x)...)
			}
			for _, x := range texts {
				a.bytes = append(a.bytes, whole(*x)...)
			}
			return a
		}
		was = see()
		for name, call := range map[string]func() answer{
			"Valid":                  func() answer { pdu.Valid(d); pdu.Valid(g); return answer{} },
			"Encode of Data":         func() answer { return ofBytes(pdu.Encode(d)) },
			"Encode of a Report":     func() answer { return ofBytes(pdu.Encode(g)) },
			"Decode of Data":         func() answer { return ofUnit(pdu.Decode(dataText)) },
			"Decode of a Report":     func() answer { return ofUnit(pdu.Decode(gotText)) },
			"Add":                    func() answer { return answer{ranges: pdu.Add(l, 3)} },
			"Add of what is there":   func() answer { return answer{ranges: pdu.Add(l, 0)} },
			"Add of the greatest":    func() answer { return answer{ranges: pdu.Add(l, 1<<63-1)} },
			"Has":                    func() answer { pdu.Has(l, 3); return answer{} },
			"Total":                  func() answer { pdu.Total(l); return answer{} },
			"Union":                  func() answer { return answer{ranges: pdu.Union(l, m)} },
			"Union with itself":      func() answer { return answer{ranges: pdu.Union(l, l)} },
			"Union with nothing":     func() answer { return answer{ranges: pdu.Union(l, nil)} },
			"Union of nothing":       func() answer { return answer{ranges: pdu.Union(nil, l)} },
			"Missing":                func() answer { return answer{ranges: pdu.Missing(l, 9)} },
			"Missing in a great one": func() answer { return answer{ranges: pdu.Missing(l, 1<<40)} },
			"Least":                  func() answer { return answer{ranges: pdu.Least(l)} },
		} {
			first, second := call(), call()
			want := second.clone()
			first.spoil()
			if !second.is(want) {
				t.Errorf("P301: %s: an answer shares memory with another", name)
			}
			second.spoil()
			if !see().is(was) {
				t.Fatalf("P301: %s: what was handed in has changed", name)
			}
			if !call().is(want) {
				t.Errorf("P301: %s: called again, it answers otherwise", name)
			}
		}
	}
}

func TestNilAndEmptyMeanTheSame(t *testing.T) {
	bare := []api.Unit{cancel(), {Kind: api.Report, Epoch: 1, Session: 1}, {Kind: api.Report, Epoch: 1, Session: 1, Code: 3}, {Kind: api.Data, Epoch: 1, Session: 1, Path: 1, Count: 1}, {Kind: api.Data, Epoch: 1, Session: 1, Path: 1, Count: 1, Data: []byte{1}}}
	for _, u := range bare {
		x, e := pdu.Encode(u)
		y, f := pdu.Encode(plain(u))
		if e != f || !bytes.Equal(x, y) || pdu.Valid(u) != pdu.Valid(plain(u)) {
			t.Errorf("P301: Encode(%+v) = %x, %d and %x, %d", u, x, e, y, f)
		}
	}
	none := []api.Range{}
	if !same(pdu.Add(nil, 3), pdu.Add(none, 3)) || pdu.Has(nil, 0) != pdu.Has(none, 0) || pdu.Total(nil) != 0 || pdu.Total(none) != 0 || !same(pdu.Missing(nil, 3), pdu.Missing(none, 3)) || len(pdu.Least(nil)) != 0 || len(pdu.Least(none)) != 0 || len(pdu.Union(nil, none)) != 0 || len(pdu.Union(none, nil)) != 0 {
		t.Error("P301: lists without elements")
	}
	for _, l := range [][]byte{nil, {}} {
		if u, e := pdu.Decode(l); e != api.ErrShort || !alike(u, api.Unit{}) {
			t.Errorf("P303: Decode of nothing = %+v, %d", u, e)
		}
	}
}

// Long lists end soon enough, in whatever order they come.
func TestLongLists(t *testing.T) {
	n := 200000
	var l []api.Range
	for i := range n {
		l = append(l, api.Range{From: 2 * (i * 7919 % n), To: 2*(i*7919%n) + 1})
	}
	if x := pdu.Least(l); len(x) != n || !isLeast(x) || pdu.Total(l) != n {
		t.Errorf("P306: Least of %d ranges has %d", n, len(x))
	}
	if x := pdu.Missing(l, 2*n); len(x) != n || pdu.Total(x) != n {
		t.Errorf("P306: Missing of %d ranges has %d", n, len(x))
	}
	u, v := report(), data()
	u.Got, v.Data = l, make([]byte, 1<<22)
	if pdu.Valid(u) != api.ErrUnit || pdu.Valid(v) != api.ErrUnit {
		t.Error("P302: Valid of long lists")
	}
}
