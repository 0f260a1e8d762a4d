package pdu_test

import (
	"bytes"
	"math"
	"slices"
	"testing"

	"halyard/api"
	"halyard/octet"
	"halyard/pdu"
)

// data, report, cancel: good units to begin with.
func data() api.Unit {
	return api.Unit{Kind: api.Data, Epoch: 1, Session: 2, Path: api.Express, Index: 0, Count: 3, Data: []byte{5}}
}

func report() api.Unit {
	return api.Unit{Kind: api.Report, Epoch: 1, Session: 300, Got: list(0, 2, 5, 6)}
}

func cancel() api.Unit { return api.Unit{Kind: api.Cancel, Epoch: 7, Session: 9} }

// check: Valid and Encode of u are what they must be, and the model says the same.
func check(t *testing.T, what string, u api.Unit, good bool) {
	t.Helper()
	if wordsOfGood(u) != good {
		t.Errorf("%s: the words say %v", what, !good)
	}
	want := api.OK
	if !good {
		want = api.ErrUnit
	}
	if e := pdu.Valid(u); e != want {
		t.Errorf("P302: %s: Valid = %d, want %d", what, e, want)
	}
	b, e := pdu.Encode(u)
	if e != want || !good && len(b) != 0 {
		t.Errorf("P302: %s: Encode = %x, %d, want %d", what, b, e, want)
	}
	if !good {
		return
	}
	if !bytes.Equal(b, octet.Seal(wordsOfBytes(u))) {
		t.Errorf("P302: %s: Encode = %x, want %x and a seal", what, b, wordsOfBytes(u))
	}
	if x, e := pdu.Decode(b); e != api.OK || !alike(x, u) {
		t.Errorf("P304: %s: Decode(Encode) = %+v, %d, want %+v", what, x, e, u)
	}
}

func TestExamplesOfUnits(t *testing.T) {
	long := report()
	long.Code, long.Got = 1, nil
	for _, c := range []struct {
		u    api.Unit
		want string
	}{
		{data(), "01 01 02 01 00 03 01 05"},
		{report(), "02 01 82 2c 00 02 00 02 03 01"},
		{long, "02 01 82 2c 01"},
		{cancel(), "03 07 09"},
	} {
		b, e := pdu.Encode(c.u)
		if e != api.OK || !bytes.Equal(b, sealed(t, c.want)) {
			t.Errorf("P302: Encode(%+v) = %x, %d, want %s and a seal", c.u, b, e, c.want)
		}
		if u, e := pdu.Decode(sealed(t, c.want)); e != api.OK || !alike(u, c.u) {
			t.Errorf("P303: Decode(%s) = %+v, %d, want %+v", c.want, u, e, c.u)
		}
		check(t, "an example", c.u, true)
	}
}

func TestNamesAndKinds(t *testing.T) {
	for _, u := range []api.Unit{data(), report(), cancel()} {
		for n, good := range map[uint64]bool{0: false, 1: true, 2: true, 127: true, 128: true, api.MaxNumber: true, tooGreat: false, math.MaxUint64: false} {
			x, y := u, u
			x.Epoch, y.Session = n, n
			check(t, "an Epoch", x, good)
			check(t, "a Session", y, good)
		}
	}
	for _, kind := range []int{0, 4, 5, -1, -2, 257, 1 << 32, math.MaxInt, math.MinInt} {
		for _, u := range []api.Unit{data(), report(), cancel()} {
			u.Kind = kind
			check(t, "a Kind that is none", u, false)
		}
	}
	check(t, "nothing", api.Unit{}, false)
}

func TestGoodData(t *testing.T) {
	for _, c := range []struct {
		what               string
		path, index, count int
		size               int
		good               bool
	}{
		{"Express", 1, 0, 1, 1, true}, {"Freight", 2, 0, 1, 1, true}, {"Path 0", 0, 0, 1, 1, false}, {"Path 3", 3, 0, 1, 1, false}, {"Path -1", -1, 0, 1, 1, false}, {"Path 257", 257, 0, 1, 1, false},
		{"Count 0", 1, 0, 0, 1, false}, {"Count -1", 1, 0, -1, 1, false}, {"Count 64", 1, 0, 64, 1, true}, {"Count 65", 1, 0, 65, 1, false}, {"a huge Count", 1, 0, math.MaxInt, 1, false}, {"the least Count", 1, 0, math.MinInt, 1, false},
		{"Index -1", 1, -1, 1, 1, false}, {"the least Index", 1, math.MinInt, 1, 1, false}, {"Index 1 of 1", 1, 1, 1, 1, false}, {"Index 2 of 3", 1, 2, 3, 1, true}, {"Index 3 of 3", 1, 3, 3, 1, false}, {"Index 63 of 64", 1, 63, 64, 1, true}, {"Index 64 of 64", 1, 64, 64, 1, false}, {"Index 64 of 65", 1, 64, 65, 1, false}, {"Index and Count below 0", 1, -3, -2, 1, false}, {"a huge Index", 1, math.MaxInt, 64, 1, false},
		{"no bytes", 1, 0, 1, 0, false}, {"1024 bytes", 2, 63, 64, 1024, true}, {"1025 bytes", 2, 63, 64, 1025, false}, {"127 bytes", 1, 0, 1, 127, true}, {"128 bytes", 1, 0, 1, 128, true},
	} {
		u := api.Unit{Kind: api.Data, Epoch: 4, Session: 5, Path: c.path, Index: c.index, Count: c.count, Data: make([]byte, c.size)}
		check(t, c.what, u, c.good)
	}
	for _, code := range []int{1, 7, -1} {
		u := data()
		u.Code = code
		check(t, "Data with a Code", u, false)
	}
	u := data()
	u.Got = list(0, 1)
	check(t, "Data with a Got", u, false)
	u.Got = list(0, 0)
	check(t, "Data with a range that has no number", u, false)
}

func TestGoodReport(t *testing.T) {
	for code, good := range map[int]bool{0: true, 1: true, 2: true, 6: true, 7: true, 8: false, -1: false, math.MaxInt: false, math.MinInt: false, 256: false} {
		u := report()
		u.Code, u.Got = code, nil
		check(t, "a Code", u, good)
		u.Got = list(3, 4)
		check(t, "a Code and a Got", u, code == 0)
		u.Got = list(3, 3)
		check(t, "a Code and a range without a number", u, false)
	}
	var every []api.Range
	for i := range 32 {
		every = append(every, api.Range{From: 2 * i, To: 2*i + 1})
	}
	for _, c := range []struct {
		what string
		got  []api.Range
		good bool
	}{
		{"none", nil, true}, {"all", list(0, 64), true}, {"one too many", list(0, 65), false}, {"the last", list(63, 64), true}, {"the one behind the last", list(64, 65), false}, {"the last two, one of them none", list(63, 65), false},
		{"below 0", list(-1, 0), false}, {"from below 0 on", list(-1, 3), false}, {"no number", list(3, 3), false}, {"no number at 0", list(0, 0), false}, {"the wrong way round", list(4, 3), false},
		{"touching", list(0, 1, 1, 2), false}, {"one between", list(0, 1, 2, 3), true}, {"overlapping", list(0, 2, 1, 3), false}, {"falling", list(5, 6, 0, 2), false}, {"twice", list(0, 2, 0, 2), false},
		{"a number's gap, and at the end", list(1, 62, 63, 64), true}, {"an empty one between", list(0, 1, 3, 3, 5, 6), false}, {"an empty one at the end", list(0, 1, 3, 3), false},
		{"all ints", list(math.MinInt, math.MaxInt), false}, {"up to the greatest", list(0, math.MaxInt), false}, {"behind the greatest", list(0, math.MaxInt, math.MinInt, 3), false}, {"from the greatest on", list(math.MaxInt, math.MinInt), false}, {"from the least on", list(math.MinInt, 4), false},
		{"every second", every, true}, {"every second, and one", append(slices.Clone(every), list(64, 65)...), false}, {"every second, and the last", append(slices.Clone(every[:31]), list(62, 64)...), true}, {"every odd one", list(1, 2, 3, 4, 5, 6, 61, 62, 63, 64), true},
	} {
		u := report()
		u.Got = c.got
		check(t, "Got: "+c.what, u, c.good)
	}
}

// foreign: a field of its own that another kind has, filled.
func foreign() map[string]func(u *api.Unit) {
	return map[string]func(u *api.Unit){
		"Path":     func(u *api.Unit) { u.Path = 1 },
		"Path -1":  func(u *api.Unit) { u.Path = -1 },
		"Index":    func(u *api.Unit) { u.Index = 1 },
		"Index -1": func(u *api.Unit) { u.Index = -1 },
		"Count":    func(u *api.Unit) { u.Count = 1 },
		"Count -1": func(u *api.Unit) { u.Count = -1 },
		"Data":     func(u *api.Unit) { u.Data = []byte{0} },
	}
}

func TestForeignFields(t *testing.T) {
	for what, fill := range foreign() {
		u, v := report(), cancel()
		fill(&u)
		check(t, "a Report with "+what, u, false)
		u.Code, u.Got = 2, nil
		check(t, "a Report with a Code and "+what, u, false)
		fill(&v)
		check(t, "a Cancel with "+what, v, false)
	}
	for _, code := range []int{1, 7, -1} {
		u := cancel()
		u.Code = code
		check(t, "a Cancel with a Code", u, false)
	}
	for _, got := range [][]api.Range{list(0, 1), list(0, 0)} {
		u := cancel()
		u.Got = got
		check(t, "a Cancel with a Got", u, false)
	}
}

// Each fault, and behind it another one: the first is the answer.
func TestDecodeFirstFault(t *testing.T) {
	const top, above = "bf ff ff ff ff ff 7f", "c0 80 80 80 80 80 00"
	cases := []struct {
		bytes string
		want  api.Errno
	}{
		{"", api.ErrShort}, {"00", api.ErrUnit}, {"04", api.ErrUnit}, {"80", api.ErrShort}, {"80 01", api.ErrNumber}, {above, api.ErrNumber}, {top, api.ErrUnit}, {"04 80 01", api.ErrUnit}, {"83 03", api.ErrUnit}, {"03", api.ErrShort},
		{"03 00", api.ErrUnit}, {"03 00 80 01", api.ErrUnit}, {"03 80 01", api.ErrNumber}, {"03 01", api.ErrShort}, {"03 " + above, api.ErrNumber}, {"03 " + top, api.ErrShort}, {"03 81", api.ErrShort},
		{"03 01 00", api.ErrUnit}, {"03 01 00 00", api.ErrUnit}, {"03 01 80 01", api.ErrNumber}, {"03 01 " + above, api.ErrNumber}, {"03 01 " + top, api.OK}, {"03 " + top + top, api.OK}, {"03 01 01", api.OK}, {"03 01 01 00", api.ErrRest}, {"03 01 01 80", api.ErrRest}, {"03 01 01 03 01 01", api.ErrRest},

		{"01 01 01", api.ErrShort}, {"01 01 01 00", api.ErrUnit}, {"01 01 01 03", api.ErrUnit}, {"01 01 01 80 01", api.ErrNumber}, {"01 01 01 " + above, api.ErrNumber}, {"01 01 01 " + top, api.ErrUnit}, {"01 01 01 82 01", api.ErrUnit},
		{"01 01 01 01", api.ErrShort}, {"01 01 01 01 3f", api.ErrShort}, {"01 01 01 01 40", api.ErrUnit}, {"01 01 01 01 40 41", api.ErrUnit}, {"01 01 01 01 " + top, api.ErrUnit}, {"01 01 01 01 " + above, api.ErrNumber}, {"01 01 01 01 80 00", api.ErrNumber},
		{"01 01 01 01 00 00", api.ErrUnit}, {"01 01 01 01 00 41", api.ErrUnit}, {"01 01 01 01 01 01", api.ErrUnit}, {"01 01 01 01 02 01", api.ErrUnit}, {"01 01 01 01 3f 40", api.ErrShort}, {"01 01 01 01 3f 3f", api.ErrUnit}, {"01 01 01 01 3f 41", api.ErrUnit}, {"01 01 01 01 00 80 01", api.ErrNumber}, {"01 01 01 01 00 " + above, api.ErrNumber}, {"01 01 01 01 00 " + top, api.ErrUnit},
		{"01 01 01 01 00 01", api.ErrShort}, {"01 01 01 01 00 01 00", api.ErrUnit}, {"01 01 01 01 00 01 00 00", api.ErrUnit}, {"01 01 01 01 00 01 01", api.ErrShort}, {"01 01 01 01 00 01 01 07", api.OK}, {"01 01 01 02 00 01 01 07", api.OK}, {"01 01 01 01 00 01 01 07 00", api.ErrRest},
		{"01 01 01 01 00 01 88 00", api.ErrShort}, {"01 01 01 01 00 01 88 01", api.ErrNumber}, {"01 01 01 01 00 01 " + top, api.ErrNumber}, {"01 01 01 01 00 01 80 01 07", api.ErrNumber}, {"01 01 01 01 00 01 02 07", api.ErrShort},

		{"02 01 01", api.ErrShort}, {"02 01 01 08", api.ErrUnit}, {"02 01 01 " + top, api.ErrUnit}, {"02 01 01 " + above, api.ErrNumber}, {"02 01 01 80 01", api.ErrNumber}, {"02 01 01 82 00", api.ErrUnit},
		{"02 01 01 01", api.OK}, {"02 01 01 07", api.OK}, {"02 01 01 07 00", api.ErrRest}, {"02 01 01 01 01 00 01", api.ErrRest}, {"02 01 01 00", api.ErrShort}, {"02 01 01 00 00", api.OK}, {"02 01 01 00 00 00", api.ErrRest},
		{"02 01 01 00 20", api.ErrShort}, {"02 01 01 00 21", api.ErrUnit}, {"02 01 01 00 21 80 01", api.ErrUnit}, {"02 01 01 00 " + top, api.ErrUnit}, {"02 01 01 00 " + above, api.ErrNumber}, {"02 01 01 00 80 01", api.ErrNumber},
		{"02 01 01 00 01", api.ErrShort}, {"02 01 01 00 01 00", api.ErrShort}, {"02 01 01 00 01 00 00", api.ErrUnit}, {"02 01 01 00 01 00 01", api.OK}, {"02 01 01 00 01 00 40", api.OK}, {"02 01 01 00 01 00 41", api.ErrUnit}, {"02 01 01 00 01 3f 01", api.OK}, {"02 01 01 00 01 3f 02", api.ErrUnit}, {"02 01 01 00 01 40 00", api.ErrUnit}, {"02 01 01 00 01 40 01", api.ErrUnit},
		{"02 01 01 00 01 40", api.ErrShort}, {"02 01 01 00 01 " + top, api.ErrShort}, {"02 01 01 00 01 " + top + "80 01", api.ErrNumber}, {"02 01 01 00 01 " + top + top, api.ErrUnit}, {"02 01 01 00 01 " + above, api.ErrNumber}, {"02 01 01 00 01 00 " + above, api.ErrNumber}, {"02 01 01 00 01 00 " + top, api.ErrUnit}, {"02 01 01 00 01 80 00 01", api.ErrNumber}, {"02 01 01 00 01 00 80 01", api.ErrNumber},
		{"02 01 01 00 02 00 01", api.ErrShort}, {"02 01 01 00 02 00 01 00", api.ErrShort}, {"02 01 01 00 02 00 01 00 80 01", api.ErrNumber}, {"02 01 01 00 02 00 01 00 01", api.ErrUnit}, {"02 01 01 00 02 00 01 01 01", api.OK}, {"02 01 01 00 02 00 01 01 00", api.ErrUnit}, {"02 01 01 00 02 00 01 3e 01", api.OK}, {"02 01 01 00 02 00 01 3f 01", api.ErrUnit}, {"02 01 01 00 02 00 01 01 3e", api.OK}, {"02 01 01 00 02 00 01 01 3f", api.ErrUnit}, {"02 01 01 00 02 00 01 01 01 00", api.ErrRest},
		// The number of ranges is looked at by itself alone: of 32 that can't all be good the first one that is not is told.
		{"02 01 01 00 20 3f 01", api.ErrShort}, {"02 01 01 00 20 3f 01 01 01", api.ErrUnit}, {"02 01 01 00 02 00 40", api.ErrShort}, {"02 01 01 00 02 00 40 80 01", api.ErrNumber}, {"02 01 01 00 02 00 40 01 01", api.ErrUnit},
	}
	for _, c := range cases {
		u, e := pdu.Decode(sealed(t, c.bytes))
		want, f := wordsOfDecode(raw(t, c.bytes))
		if e != c.want || f != c.want || !alike(u, want) {
			t.Errorf("P303: Decode(%s, sealed) = %+v, %d, want %+v, %d (the words: %d)", c.bytes, u, e, want, c.want, f)
		}
	}
}

func TestDecodeAsksTheSealFirst(t *testing.T) {
	for _, c := range []struct {
		bytes string
		want  api.Errno
	}{
		{"", api.ErrShort}, {"01", api.ErrShort}, {"01 02 03", api.ErrShort}, {"80 80 80", api.ErrShort}, {"00 00 00 00", api.ErrShort}, {"00 00 00 01", api.ErrSeal}, {"04 01 01 00 00 00 00", api.ErrSeal}, {"80 01 00 00 00 00", api.ErrSeal}, {"03 07 09 00 00 00 00", api.ErrSeal}, {"03 07 09", api.ErrShort},
	} {
		if u, e := pdu.Decode(raw(t, c.bytes)); e != c.want || !alike(u, api.Unit{}) {
			t.Errorf("P303: Decode(%s) = %+v, %d, want %d", c.bytes, u, e, c.want)
		}
	}
	if u, e := pdu.Decode(octet.Seal(make([]byte, 1<<20))); e != api.ErrUnit || !alike(u, api.Unit{}) {
		t.Errorf("P303: a million zeros, sealed: %+v, %d", u, e)
	}
}

// Bytes that are a unit's, or near to one's.
func TestDecodeAsTheWordsSay(t *testing.T) {
	r := chance()
	seen := map[api.Errno]int{}
	for range 60000 {
		b := wordsOfBytes(someUnit(r))
		for range r.Intn(3) {
			i := r.Intn(min(len(b), 24))
			switch r.Intn(4) {
			case 0:
				b[i] = byte(r.Intn(256))
			case 1:
				b[i] = []byte{0, 1, 2, 3, 4, 7, 8, 32, 33, 63, 64, 65, 127, 128, 129, 255}[r.Intn(16)]
			case 2:
				b = b[:r.Intn(len(b))+1]
			case 3:
				b = slices.Insert(b, i, byte(r.Intn(256)))
			}
		}
		u, e := pdu.Decode(octet.Seal(b))
		want, f := wordsOfDecode(b)
		seen[e]++
		if e != f || !alike(u, want) {
			t.Fatalf("P303: Decode(%x, sealed) = %+v, %d, want %+v, %d", b, u, e, want, f)
		}
		if e != api.OK {
			continue
		}
		if again, g := pdu.Encode(u); g != api.OK || !bytes.Equal(again, octet.Seal(b)) {
			t.Fatalf("P304: Encode of what Decode(%x, sealed) answers = %x, %d", b, again, g)
		}
	}
	for _, e := range []api.Errno{api.OK, api.ErrShort, api.ErrRest, api.ErrNumber, api.ErrUnit} {
		if seen[e] < 500 {
			t.Errorf("only %d answers were %d", seen[e], e)
		}
	}
}

// Reports of all short strings over the bytes that mean something there.
func TestDecodeOfAllShortReports(t *testing.T) {
	letters := []byte{0, 1, 2, 3, 62, 64, 128}
	b := []byte{2, 1, 1, 0}
	var grow func()
	grow = func() {
		u, e := pdu.Decode(octet.Seal(b))
		want, f := wordsOfDecode(b)
		if e != f || !alike(u, want) {
			t.Fatalf("P303: Decode(%x, sealed) = %+v, %d, want %+v, %d", b, u, e, want, f)
		}
		if len(b) == 10 {
			return
		}
		for _, c := range letters {
			b = append(b, c)
			grow()
			b = b[:len(b)-1]
		}
	}
	grow()
}

func TestEveryFrontIsShort(t *testing.T) {
	for _, u := range []api.Unit{data(), report(), cancel()} {
		b := wordsOfBytes(u)
		for i := range b {
			if x, e := pdu.Decode(octet.Seal(b[:i])); e != api.ErrShort || !alike(x, api.Unit{}) {
				t.Errorf("P303: Decode of the first %d bytes of %x, sealed: %+v, %d", i, b, x, e)
			}
		}
	}
}

func TestThereAndBack(t *testing.T) {
	r := chance()
	for range 20000 {
		check(t, "some unit", someUnit(r), true)
	}
}

// One field of a good unit is turned to a value at an edge: Valid says what the words say.
func TestValidAsTheWordsSay(t *testing.T) {
	r := chance()
	edges := []int{math.MinInt, -1, 0, 1, 2, 3, 4, 7, 8, 63, 64, 65, 1 << 32, 1<<48 - 1, 1 << 48, math.MaxInt}
	good := 0
	for range 40000 {
		u := plain(someUnit(r))
		edge := edges[r.Intn(len(edges))]
		switch n := r.Intn(10); n {
		case 0:
			u.Epoch = uint64(edge)
		case 1:
			u.Session = uint64(edge)
		case 2:
			u.Data = make([]byte, []int{0, 1, 1024, 1025}[r.Intn(4)])
		case 3, 4:
			if len(u.Got) == 0 {
				u.Got = list(0, 0)
			}
			x := &u.Got[r.Intn(len(u.Got))]
			*[]*int{&x.From, &x.To}[n-3] = edge
		default:
			*[]*int{&u.Kind, &u.Path, &u.Index, &u.Count, &u.Code}[n-5] = edge
		}
		want := api.ErrUnit
		if wordsOfGood(u) {
			want = api.OK
			good++
		}
		if e := pdu.Valid(u); e != want {
			t.Fatalf("P302: Valid(%+v) = %d, want %d", u, e, want)
		}
	}
	if good < 2000 || good > 38000 {
		t.Errorf("%d were good", good)
	}
}

func TestBurstIsTold(t *testing.T) {
	r := chance()
	long := data()
	long.Data = make([]byte, 1024)
	for _, u := range []api.Unit{data(), report(), cancel(), long} {
		b, _ := pdu.Encode(u)
		turned := 0
		for at := -40; at < 8*len(b)+8; at++ {
			for _, mask := range []uint32{1, 1 << 31, 1<<31 + 1, math.MaxUint32, r.Uint32(), r.Uint32(), 0} {
				x := octet.Burst(b, at, mask)
				want := api.ErrSeal
				if bytes.Equal(x, b) {
					want = api.OK
				} else {
					turned++
				}
				y, e := pdu.Decode(x)
				if e != want || e != api.OK && !alike(y, api.Unit{}) || e == api.OK && !alike(y, u) {
					t.Fatalf("P305: Decode of %x, turned at %d by %x: %+v, %d, want %d", b, at, mask, y, e, want)
				}
			}
		}
		if turned < 40*len(b) {
			t.Errorf("only %d bursts turned a bit", turned)
		}
	}
}
