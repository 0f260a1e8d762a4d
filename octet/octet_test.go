package octet_test

import (
	"bytes"
	"encoding/hex"
	"hash/crc32"
	"math"
	"math/big"
	"math/rand"
	"strings"
	"testing"

	"halyard/api"
	"halyard/octet"
)

func raw(t *testing.T, s string) []byte {
	t.Helper()
	b, err := hex.DecodeString(strings.ReplaceAll(s, " ", ""))
	if err != nil {
		t.Fatal(err)
	}
	return b
}

func same(t *testing.T, what string, got, want []byte) {
	t.Helper()
	if !bytes.Equal(got, want) {
		t.Errorf("%s: %x, want %x", what, got, want)
	}
}

// chance: the same numbers at every run.
func chance() *rand.Rand { return rand.New(rand.NewSource(1)) }

func someBytes(r *rand.Rand, n int) []byte {
	b := make([]byte, n)
	r.Read(b)
	return b
}

// edges: numbers around each power of two, and the ends.
func edges() []uint64 {
	l := []uint64{0, 300, math.MaxUint64, api.MaxNumber}
	for k := range 64 {
		p := uint64(1) << k
		l = append(l, p-1, p, p+1)
	}
	return l
}

// wordsOfNumber: the bytes of a number as the chapter's words make them, digit by digit.
func wordsOfNumber(n uint64) []byte {
	rest, base, digit := new(big.Int).SetUint64(n), big.NewInt(128), new(big.Int)
	b := []byte{}
	for {
		rest.DivMod(rest, base, digit)
		c := byte(digit.Uint64())
		if len(b) > 0 {
			c += 128
		}
		b = append([]byte{c}, b...)
		if rest.Sign() == 0 {
			return b
		}
	}
}

// wordsOfParse: P102's sentence on Number, clause by clause.
func wordsOfParse(b []byte) (uint64, int, api.Errno) {
	end := -1
	for i := 0; i < len(b) && i < 10; i++ {
		if b[i] < 128 {
			end = i
			break
		}
	}
	if end < 0 && len(b) < 10 {
		return 0, 0, api.ErrShort
	}
	if end < 0 || b[0] == 128 {
		return 0, 0, api.ErrNumber
	}
	n := new(big.Int)
	for _, c := range b[:end+1] {
		n.Add(n.Mul(n, big.NewInt(128)), big.NewInt(int64(c&127)))
	}
	if !n.IsUint64() {
		return 0, 0, api.ErrNumber
	}
	return n.Uint64(), end + 1, api.OK
}

func TestAppendNumber(t *testing.T) {
	for _, c := range []struct {
		n    uint64
		want string
	}{
		{0, "00"}, {1, "01"}, {127, "7f"}, {128, "81 00"}, {300, "82 2c"}, {16383, "ff 7f"}, {16384, "81 80 00"},
		{1 << 63, "81 80 80 80 80 80 80 80 80 00"}, {1<<63 - 1, "ff ff ff ff ff ff ff ff 7f"},
		{math.MaxUint64, "81 ff ff ff ff ff ff ff ff 7f"},
	} {
		same(t, "P102: AppendNumber", octet.AppendNumber(nil, c.n), raw(t, c.want))
	}
	same(t, "P102: behind another byte", octet.AppendNumber([]byte{9}, 5), []byte{9, 5})
	same(t, "P102: behind an empty list", octet.AppendNumber([]byte{}, 5), []byte{5})
	for _, n := range edges() {
		same(t, "P102: AppendNumber behind others", octet.AppendNumber([]byte{128, 255, 0}, n), append([]byte{128, 255, 0}, wordsOfNumber(n)...))
	}
}

func TestNumberNamedCases(t *testing.T) {
	for _, c := range []struct {
		bytes string
		n     uint64
		size  int
		e     api.Errno
	}{
		{"82 2c 07", 300, 2, api.OK},
		{"00", 0, 1, api.OK},
		{"00 ff", 0, 1, api.OK},
		{"7f 80", 127, 1, api.OK},
		{"81 ff ff ff ff ff ff ff ff 7f", math.MaxUint64, 10, api.OK},
		{"81 ff ff ff ff ff ff ff ff 7f ff", math.MaxUint64, 10, api.OK},
		{"81 80 80 80 80 80 80 80 80 00", 1 << 63, 10, api.OK},
		{"", 0, 0, api.ErrShort},
		{"80", 0, 0, api.ErrShort},
		{"80 80 80", 0, 0, api.ErrShort},
		{"81", 0, 0, api.ErrShort},
		{"80 ff ff ff ff ff ff ff ff", 0, 0, api.ErrShort},
		{"ff ff ff ff ff ff ff ff ff", 0, 0, api.ErrShort},
		{"ff ff ff ff ff ff ff ff ff ff", 0, 0, api.ErrNumber},
		{"81 80 80 80 80 80 80 80 80 80", 0, 0, api.ErrNumber},
		{"81 80 80 80 80 80 80 80 80 80 00", 0, 0, api.ErrNumber},
		{"80 01", 0, 0, api.ErrNumber},
		{"80 00", 0, 0, api.ErrNumber},
		{"80 80 80 80 80 80 80 80 80 00", 0, 0, api.ErrNumber},
		{"80 81 80 80 80 80 80 80 80 00", 0, 0, api.ErrNumber},
		{"82 80 80 80 80 80 80 80 80 00", 0, 0, api.ErrNumber},
		{"83 80 80 80 80 80 80 80 80 01", 0, 0, api.ErrNumber},
		{"ff ff ff ff ff ff ff ff ff 7f", 0, 0, api.ErrNumber},
	} {
		if n, size, e := octet.Number(raw(t, c.bytes)); n != c.n || size != c.size || e != c.e {
			t.Errorf("P102: Number(%s) = %d, %d, %d, want %d, %d, %d", c.bytes, n, size, e, c.n, c.size, c.e)
		}
	}
}

func checkParse(t *testing.T, b []byte) {
	t.Helper()
	n, size, e := octet.Number(b)
	if wn, ws, we := wordsOfParse(b); n != wn || size != ws || e != we {
		t.Fatalf("P102: Number(%x) = %d, %d, %d, want %d, %d, %d", b, n, size, e, wn, ws, we)
	}
	if e == api.OK && !bytes.Equal(octet.AppendNumber(nil, n), b[:size]) {
		t.Fatalf("P107: %x is not how AppendNumber writes %d", b[:size], n)
	}
}

// numberLike: strings that are near to numbers: many high bytes, few low ones.
func numberLike(r *rand.Rand) []byte {
	b := someBytes(r, r.Intn(14))
	for i := range b {
		switch r.Intn(8) {
		case 0:
			b[i] = 128
		case 1:
			b[i] = 129
		case 2:
			b[i] &= 127
		default:
			b[i] |= 128
		}
	}
	return b
}

func TestNumberOfAllShortStrings(t *testing.T) {
	checkParse(t, nil)
	for x := range 256 {
		checkParse(t, []byte{byte(x)})
		for y := range 256 {
			checkParse(t, []byte{byte(x), byte(y)})
			checkParse(t, []byte{byte(x), 128, byte(y)})
		}
	}
}

func TestNumberOfLongStrings(t *testing.T) {
	r := chance()
	for range 50000 {
		checkParse(t, numberLike(r))
	}
	for first := 128; first < 256; first++ {
		for last := range 256 {
			b := append([]byte{byte(first)}, bytes.Repeat([]byte{255}, 8)...)
			checkParse(t, append(b, byte(last), 0))
		}
	}
}

func TestOneWayToWriteANumber(t *testing.T) {
	l := edges()
	for _, n := range l {
		b := octet.AppendNumber(nil, n)
		if m, size, e := octet.Number(append(bytes.Clone(b), 200, 1)); m != n || size != len(b) || e != api.OK {
			t.Errorf("P107: %d is read as %d, %d, %d", n, m, size, e)
		}
		for k := range b {
			if _, _, e := octet.Number(b[:k]); e != api.ErrShort {
				t.Errorf("P107: the first %d bytes of %d: %d", k, n, e)
			}
		}
		for _, m := range l {
			if m != n && bytes.HasPrefix(b, octet.AppendNumber(nil, m)) {
				t.Errorf("P107: the bytes of %d begin with those of %d", n, m)
			}
		}
	}
}

func TestAppendBytes(t *testing.T) {
	same(t, "P103", octet.AppendBytes(nil, []byte{7, 8}), []byte{2, 7, 8})
	same(t, "P103: nil", octet.AppendBytes(nil, nil), []byte{0})
	same(t, "P103: empty", octet.AppendBytes([]byte{}, []byte{}), []byte{0})
	same(t, "P103: nil behind another", octet.AppendBytes([]byte{1}, nil), []byte{1, 0})
	same(t, "P103: behind another", octet.AppendBytes([]byte{200}, []byte{128}), []byte{200, 1, 128})
	r := chance()
	for _, n := range []int{1, 127, 128, 129, 512, 16383, 16384} {
		x := someBytes(r, n)
		want := append(append([]byte{5, 6}, wordsOfNumber(uint64(n))...), x...)
		same(t, "P103: longer", octet.AppendBytes([]byte{5, 6}, x), want)
	}
	b := []byte{1, 2, 3}
	same(t, "P103: a list behind itself", octet.AppendBytes(b, b), []byte{1, 2, 3, 3, 1, 2, 3})
}

// wordsOfCRC: the chapter's words, bit by bit.
func wordsOfCRC(b []byte) uint32 {
	c := uint32(math.MaxUint32)
	for k := range 8 * len(b) {
		bit := uint32(b[k/8]>>(k%8)) & 1
		unlike := c&1 != bit
		c >>= 1
		if unlike {
			c ^= 0xedb88320
		}
	}
	return ^c
}

func checkCRC(t *testing.T, b []byte) {
	t.Helper()
	if got, want := octet.CRC(b), wordsOfCRC(b); got != want || got != crc32.ChecksumIEEE(b) {
		t.Errorf("P104: CRC(%x) = %x, want %x", b, got, want)
	}
}

func TestCRC(t *testing.T) {
	if c := octet.CRC([]byte("123456789")); c != 0xcbf43926 {
		t.Errorf("P104: CRC of 123456789: %x", c)
	}
	if octet.CRC(nil) != 0 || octet.CRC([]byte{}) != 0 {
		t.Errorf("P104: CRC of nothing: %x, %x", octet.CRC(nil), octet.CRC([]byte{}))
	}
	r := chance()
	for x := range 256 {
		checkCRC(t, []byte{byte(x)})
		checkCRC(t, someBytes(r, x))
	}
	checkCRC(t, make([]byte, 8192))
	checkCRC(t, bytes.Repeat([]byte{255}, 8192))
}

func TestSeal(t *testing.T) {
	same(t, "P104: Seal of nothing", octet.Seal(nil), make([]byte, 4))
	same(t, "P104: Seal of an empty list", octet.Seal([]byte{}), make([]byte, 4))
	same(t, "P104: Seal", octet.Seal([]byte("123456789")), append([]byte("123456789"), 0x26, 0x39, 0xf4, 0xcb))
	r := chance()
	for n := range 100 {
		b := someBytes(r, n)
		c := wordsOfCRC(b)
		same(t, "P104: Seal", octet.Seal(b), append(bytes.Clone(b), byte(c), byte(c>>8), byte(c>>16), byte(c>>24)))
	}
}

func TestUnsealNamedCases(t *testing.T) {
	for _, c := range []struct {
		bytes, want string
		e           api.Errno
	}{
		{"", "", api.ErrShort},
		{"00", "", api.ErrShort},
		{"00 00 00", "", api.ErrShort},
		{"00 00 00 00", "", api.OK},
		{"00 00 00 01", "", api.ErrSeal},
		{"01 00 00 00", "", api.ErrSeal},
		{"00 00 00 00 00", "", api.ErrSeal},
		{"00 8d ef 02 d2", "00", api.OK},
		{"00 d2 02 ef 8d", "", api.ErrSeal},
		{"01 8d ef 02 d2", "", api.ErrSeal},
		{"31 32 33 34 35 36 37 38 39 26 39 f4 cb", "31 32 33 34 35 36 37 38 39", api.OK},
		{"31 32 33 34 35 36 37 38 39 26 39 f4 cb 00", "", api.ErrSeal},
	} {
		got, e := octet.Unseal(raw(t, c.bytes))
		if !bytes.Equal(got, raw(t, c.want)) || e != c.e {
			t.Errorf("P104: Unseal(%s) = %x, %d, want %s, %d", c.bytes, got, e, c.want, c.e)
		}
	}
}

func TestSealComesOff(t *testing.T) {
	r := chance()
	for n := range 300 {
		b := someBytes(r, n)
		if x, e := octet.Unseal(octet.Seal(b)); !bytes.Equal(x, b) || e != api.OK {
			t.Errorf("P109: Unseal(Seal(%x)) = %x, %d", b, x, e)
		}
	}
	for range 20000 {
		b := someBytes(r, r.Intn(12))
		if r.Intn(2) == 0 {
			b = octet.Seal(b)
		}
		if r.Intn(2) == 0 && len(b) > 0 {
			b[r.Intn(len(b))] = byte(r.Intn(256))
		}
		if x, e := octet.Unseal(b); e == api.OK && !bytes.Equal(octet.Seal(x), b) {
			t.Errorf("P109: Unseal takes %x, which is not Seal's", b)
		}
	}
}

// wordsOfBurst: P105's sentence, with at + j as a number without any end.
func wordsOfBurst(b []byte, at int, mask uint32) []byte {
	out := bytes.Clone(b)
	for k := range 8 * len(b) {
		j := new(big.Int).Sub(big.NewInt(int64(k)), big.NewInt(int64(at)))
		if j.Sign() >= 0 && j.Cmp(big.NewInt(32)) < 0 && mask>>j.Uint64()&1 == 1 {
			out[k/8] ^= 1 << (k % 8)
		}
	}
	return out
}

func masks() []uint32 {
	return []uint32{0, 1, 2, 3, 1 << 31, 1<<31 | 1, math.MaxUint32, 0x80, 0x100, 0xdeadbeef, 0x55555555}
}

func TestBurstNamedCases(t *testing.T) {
	for _, c := range []struct {
		bytes string
		at    int
		mask  uint32
		want  string
	}{
		{"00 00", 4, 3, "30 00"},
		{"00 00", 7, 3, "80 01"},
		{"00", -1, 2, "01"},
		{"00", -1, 1, "00"},
		{"00", 8, 1, "00"},
		{"00", 7, 1, "80"},
		{"00", -31, 1 << 31, "01"},
		{"00", -32, math.MaxUint32, "00"},
		{"12 34", 0, 0, "12 34"},
		{"00 00 00 00 00", 8, math.MaxUint32, "00 ff ff ff ff"},
		{"ff ff ff ff ff", 4, math.MaxUint32, "0f 00 00 00 f0"},
		{"00", math.MaxInt, math.MaxUint32, "00"},
		{"00", math.MinInt, math.MaxUint32, "00"},
		{"00", math.MaxInt - 31, math.MaxUint32, "00"},
		{"", 0, math.MaxUint32, ""},
		{"", -5, math.MaxUint32, ""},
	} {
		same(t, "P105: Burst", octet.Burst(raw(t, c.bytes), c.at, c.mask), raw(t, c.want))
	}
}

func TestBurstAtEveryPlace(t *testing.T) {
	r := chance()
	far := []int{math.MinInt, math.MinInt + 1, math.MinInt + 31, -1 << 32, -1000, 1000, 1 << 32, 1 << 61, math.MaxInt - 31, math.MaxInt - 1, math.MaxInt}
	for _, n := range []int{0, 1, 2, 4, 5, 9} {
		b := someBytes(r, n)
		places := far
		for at := -40; at < 8*n+40; at++ {
			places = append(places, at)
		}
		for _, at := range places {
			for _, mask := range append(masks(), r.Uint32()) {
				x := octet.Burst(b, at, mask)
				same(t, "P105: Burst", x, wordsOfBurst(b, at, mask))
				same(t, "P111: Burst of Burst", octet.Burst(x, at, mask), b)
			}
		}
	}
}

func TestBurstIsTold(t *testing.T) {
	r := chance()
	for _, n := range []int{0, 1, 3, 4, 5, 12, 40} {
		s := octet.Seal(someBytes(r, n))
		// In the string's bytes, in the seal's, and over both; partly ahead of the string, and behind it.
		for at := -33; at < 8*len(s)+2; at++ {
			for _, mask := range append(masks(), r.Uint32(), r.Uint32()) {
				b := octet.Burst(s, at, mask)
				x, e := octet.Unseal(b)
				turned := !bytes.Equal(b, s)
				if turned && (e != api.ErrSeal || len(x) != 0) || !turned && e != api.OK {
					t.Fatalf("P110: %d bytes, at %d, mask %x: %x, %d", len(s), at, mask, x, e)
				}
			}
		}
	}
}
