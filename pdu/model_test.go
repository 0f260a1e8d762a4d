package pdu_test

import (
	"encoding/hex"
	"math/big"
	"math/rand"
	"reflect"
	"slices"
	"strings"
	"testing"

	"halyard/api"
	"halyard/octet"
)

const tooGreat = uint64(api.MaxNumber) + 1

func raw(t *testing.T, s string) []byte {
	t.Helper()
	b, err := hex.DecodeString(strings.ReplaceAll(s, " ", ""))
	if err != nil {
		t.Fatal(err)
	}
	return b
}

// chance: the same numbers at every run.
func chance() *rand.Rand { return rand.New(rand.NewSource(1)) }

// plain: the unit in memory of its own, its lists not nil.
func plain(u api.Unit) api.Unit {
	u.Data, u.Got = append([]byte{}, u.Data...), append([]api.Range{}, u.Got...)
	return u
}

// alike: are two units the same, with nil and empty lists as one?
func alike(a, b api.Unit) bool { return reflect.DeepEqual(plain(a), plain(b)) }

// list: ranges by their ends, two numbers each.
func list(ends ...int) []api.Range {
	l := []api.Range{}
	for i := 0; i < len(ends); i += 2 {
		l = append(l, api.Range{From: ends[i], To: ends[i+1]})
	}
	return l
}

// someName: an epoch's or a session's number, of each size as often.
func someName(r *rand.Rand) uint64 {
	n := uint64(1)<<(1+r.Intn(48)) - 1
	if r.Intn(2) == 0 {
		n &= r.Uint64()
	}
	return max(n, 1)
}

// someGot: a least form of segments' numbers, more often one at the edges than not.
func someGot(r *rand.Rand) []api.Range {
	most := 1 + r.Intn(8)
	l, at := []api.Range{}, r.Intn(2)*r.Intn(most)
	for at < 64 && r.Intn(40) > 0 {
		to := min(at+1+r.Intn(most), 64)
		l, at = append(l, api.Range{From: at, To: to}), to+1+r.Intn(most)
	}
	return l
}

// someUnit: a good unit.
func someUnit(r *rand.Rand) api.Unit {
	u := api.Unit{Kind: 1 + r.Intn(3), Epoch: someName(r), Session: someName(r)}
	switch u.Kind {
	case api.Data:
		u.Path, u.Count = 1+r.Intn(2), 1+r.Intn(64)
		u.Index = r.Intn(u.Count)
		u.Data = make([]byte, []int{1, 2, 16, 127, 128, 1023, 1024}[r.Intn(7)])
		r.Read(u.Data)
	case api.Report:
		u.Code = max(0, r.Intn(16)-8)
		if u.Code == 0 {
			u.Got = someGot(r)
		}
	}
	return u
}

// wordsOfGood: the chapter's list of what a good unit is.
func wordsOfGood(u api.Unit) bool {
	ok := u.Epoch >= 1 && u.Epoch <= 1<<48-1 && u.Session >= 1 && u.Session <= 1<<48-1
	rest := u
	rest.Kind, rest.Epoch, rest.Session = 0, 0, 0
	switch u.Kind {
	case 1:
		ok = ok && (u.Path == 1 || u.Path == 2) && u.Count >= 1 && u.Count <= 64 && u.Index >= 0 && u.Index <= u.Count-1 && len(u.Data) >= 1 && len(u.Data) <= 1024
		rest.Path, rest.Count, rest.Index, rest.Data = 0, 0, 0, nil
	case 2:
		ok = ok && u.Code >= 0 && u.Code <= 7 && slices.Equal(u.Got, wordsOfLeast(u.Got)) && (u.Code == 0 || len(u.Got) == 0)
		for _, x := range u.Got {
			ok = ok && x.From >= 0 && x.To-1 <= 63
		}
		rest.Code, rest.Got = 0, nil
	case 3:
	default:
		return false
	}
	return ok && alike(rest, api.Unit{})
}

// wordsOfBytes: the chapter's sentence on a unit's bytes, ahead of the seal.
func wordsOfBytes(u api.Unit) []byte {
	var out []byte
	number := func(n int) { out = octet.AppendNumber(out, uint64(n)) }
	number(u.Kind)
	number(int(u.Epoch))
	number(int(u.Session))
	switch u.Kind {
	case 1:
		number(u.Path)
		number(u.Index)
		number(u.Count)
		number(len(u.Data))
		out = append(out, u.Data...)
	case 2:
		number(u.Code)
		if u.Code != 0 {
			break
		}
		number(len(u.Got))
		at := 0
		for _, x := range u.Got {
			number(x.From - at)
			number(x.To - x.From)
			at = x.To
		}
	}
	return out
}

// wordsOfDecode: P303's sentence, behind the seal: from the front, field by field. Its faults are thrown, and caught at the end.
func wordsOfDecode(b []byte) (u api.Unit, e api.Errno) {
	defer func() {
		if f, ok := recover().(api.Errno); ok {
			u, e = api.Unit{}, f
		}
	}()
	number := func(most uint64) uint64 {
		n, size, e := octet.Number(b)
		if e != api.OK {
			panic(e)
		}
		if n > most {
			panic(api.ErrNumber)
		}
		b = b[size:]
		return n
	}
	field := func(least, most uint64) uint64 {
		n := number(1<<48 - 1)
		if n < least || n > most {
			panic(api.ErrUnit)
		}
		return n
	}
	u.Kind = int(field(1, 3))
	u.Epoch = field(1, api.MaxNumber)
	u.Session = field(1, api.MaxNumber)
	switch u.Kind {
	case 1:
		u.Path = int(field(1, 2))
		u.Index = int(field(0, 63))
		u.Count = int(field(uint64(u.Index)+1, 64))
		n := number(1024)
		if n > uint64(len(b)) {
			panic(api.ErrShort)
		}
		if n == 0 {
			panic(api.ErrUnit)
		}
		u.Data, b = b[:n], b[n:]
	case 2:
		u.Code = int(field(0, 7))
		if u.Code != 0 {
			break
		}
		at := uint64(0)
		for i := range field(0, 32) {
			distance := number(1<<48 - 1)
			size := number(1<<48 - 1)
			if i > 0 && distance == 0 || size == 0 || at+distance+size-1 > 63 {
				panic(api.ErrUnit)
			}
			u.Got = append(u.Got, api.Range{From: int(at + distance), To: int(at + distance + size)})
			at += distance + size
		}
	}
	if len(b) > 0 {
		panic(api.ErrRest)
	}
	return u, api.OK
}

// wordsOfLeast: the least form. Between two neighbouring ends of the ranges either all numbers are in the list or none.
func wordsOfLeast(l []api.Range) []api.Range {
	var ends []int
	for _, x := range l {
		ends = append(ends, x.From, x.To)
	}
	slices.Sort(ends)
	ends = slices.Compact(ends)
	out := []api.Range{}
	for i := 1; i < len(ends); i++ {
		a, b := ends[i-1], ends[i]
		if !slices.ContainsFunc(l, func(x api.Range) bool { return x.From <= a && b <= x.To }) {
			continue
		}
		if n := len(out); n > 0 && out[n-1].To == a {
			out[n-1].To = b
		} else {
			out = append(out, api.Range{From: a, To: b})
		}
	}
	return out
}

// wordsOfTotal: how many numbers there are, without any end; the greatest int, if there are more.
func wordsOfTotal(l []api.Range) int {
	sum, most := new(big.Int), big.NewInt(1<<63-1)
	for _, x := range wordsOfLeast(l) {
		sum.Add(sum, new(big.Int).Sub(big.NewInt(int64(x.To)), big.NewInt(int64(x.From))))
	}
	if sum.Cmp(most) > 0 {
		return 1<<63 - 1
	}
	return int(sum.Int64())
}

// wordsOfMissing: what of (0, n) is in no range: turned round by its ends.
func wordsOfMissing(l []api.Range, n int) []api.Range {
	out := []api.Range{}
	if n < 1 {
		return out
	}
	ends := []int{0, n}
	for _, x := range l {
		for _, y := range []int{x.From, x.To} {
			if y > 0 && y < n {
				ends = append(ends, y)
			}
		}
	}
	slices.Sort(ends)
	ends = slices.Compact(ends)
	for i := 1; i < len(ends); i++ {
		a, b := ends[i-1], ends[i]
		if !slices.ContainsFunc(l, func(x api.Range) bool { return x.From <= a && b <= x.To }) {
			out = append(out, api.Range{From: a, To: b})
		}
	}
	return wordsOfLeast(out)
}

// sealed: the bytes of hex digits, with their seal.
func sealed(t *testing.T, s string) []byte { return octet.Seal(raw(t, s)) }
