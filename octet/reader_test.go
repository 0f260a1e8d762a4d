package octet_test

import (
	"bytes"
	"math"
	"math/rand"
	"testing"

	"halyard/api"
	"halyard/octet"
)

// stands: the reader's fault and place are these; asked for twice, as asking changes nothing.
func stands(t *testing.T, what string, r *octet.Reader, e api.Errno, left int) {
	t.Helper()
	for range 2 {
		if r.Err() != e || r.Left() != left {
			t.Errorf("%s: fault %d, left %d, want %d, %d", what, r.Err(), r.Left(), e, left)
		}
	}
}

// stuck: with a fault no call reads on, and none puts another fault there.
func stuck(t *testing.T, what string, r *octet.Reader, e api.Errno, left int) {
	t.Helper()
	stands(t, what, r, e, left)
	if n := r.Number(math.MaxUint64); n != 0 {
		t.Errorf("%s: Number = %d", what, n)
	}
	for _, x := range [][]byte{r.Bytes(math.MaxInt), r.Bytes(-1), r.Take(0), r.Take(1), r.Take(-1), r.Take(math.MaxInt)} {
		if len(x) != 0 {
			t.Errorf("%s: bytes %x", what, x)
		}
	}
	r.Fail(api.ErrUnit)
	r.Fail(api.OK)
	if r.End() != e {
		t.Errorf("%s: End = %d, want %d", what, r.End(), e)
	}
	stands(t, what, r, e, left)
}

func TestReaderNumber(t *testing.T) {
	for _, c := range []struct {
		bytes string
		most  uint64
		n     uint64
		left  int
		e     api.Errno
	}{
		{"05 07", 5, 5, 1, api.OK},
		{"05 07", math.MaxUint64, 5, 1, api.OK},
		{"00", 0, 0, 0, api.OK},
		{"82 2c", 300, 300, 0, api.OK},
		{"81 ff ff ff ff ff ff ff ff 7f 01", math.MaxUint64, math.MaxUint64, 1, api.OK},
		{"05 07", 4, 0, 2, api.ErrNumber},
		{"01", 0, 0, 1, api.ErrNumber},
		{"82 2c", 299, 0, 2, api.ErrNumber},
		{"81 ff ff ff ff ff ff ff ff 7f", math.MaxUint64 - 1, 0, 10, api.ErrNumber},
		{"80 01", math.MaxUint64, 0, 2, api.ErrNumber},
		{"82 80 80 80 80 80 80 80 80 00", math.MaxUint64, 0, 10, api.ErrNumber},
		{"", 9, 0, 0, api.ErrShort},
		{"81", 9, 0, 1, api.ErrShort},
		{"80", 0, 0, 1, api.ErrShort},
	} {
		r := octet.New(raw(t, c.bytes))
		if n := r.Number(c.most); n != c.n {
			t.Errorf("P106: Number(%d) over %s: %d, want %d", c.most, c.bytes, n, c.n)
		}
		stands(t, "P106: Number over "+c.bytes, r, c.e, c.left)
		if c.e != api.OK {
			stuck(t, "P106: Number over "+c.bytes, r, c.e, c.left)
		}
	}
}

func TestReaderBytes(t *testing.T) {
	for _, c := range []struct {
		bytes string
		most  int
		want  string
		left  int
		e     api.Errno
	}{
		{"02 07 08 05", 2, "07 08", 1, api.OK},
		{"02 07 08 05", math.MaxInt, "07 08", 1, api.OK},
		{"00 05", 0, "", 1, api.OK},
		{"02 07 08", 9, "07 08", 0, api.OK},
		{"02 07 08 05", 1, "", 4, api.ErrNumber},
		{"01 07", 0, "", 2, api.ErrNumber},
		{"80 01", 9, "", 2, api.ErrNumber},
		{"05 01", 4, "", 2, api.ErrNumber}, // too great, and too few bytes: the number's fault comes first
		{"05 01", 9, "", 2, api.ErrShort},
		{"02 07", 2, "", 2, api.ErrShort},
		{"01", 9, "", 1, api.ErrShort},
		{"", 9, "", 0, api.ErrShort},
		{"81", 9, "", 1, api.ErrShort},
		{"81 ff ff ff ff ff ff ff ff 7f 01", math.MaxInt, "", 11, api.ErrNumber},
		{"ff ff ff ff ff ff ff ff 7f 01", math.MaxInt, "", 10, api.ErrShort}, // 2^63 - 1
		{"05 01", -1, "", 2, api.ErrArg},
		{"02 07 08", math.MinInt, "", 3, api.ErrArg},
		{"80 01", -1, "", 2, api.ErrArg},
		{"", -1, "", 0, api.ErrArg},
	} {
		r := octet.New(raw(t, c.bytes))
		same(t, "P106: Bytes over "+c.bytes, r.Bytes(c.most), raw(t, c.want))
		stands(t, "P106: Bytes over "+c.bytes, r, c.e, c.left)
		if c.e != api.OK {
			stuck(t, "P106: Bytes over "+c.bytes, r, c.e, c.left)
		}
	}
}

func TestReaderTake(t *testing.T) {
	for _, c := range []struct {
		bytes string
		n     int
		want  string
		left  int
		e     api.Errno
	}{
		{"02 07 08 05", 3, "02 07 08", 1, api.OK},
		{"02 07", 2, "02 07", 0, api.OK},
		{"02 07", 0, "", 2, api.OK},
		{"", 0, "", 0, api.OK},
		{"02 07", 3, "", 2, api.ErrShort},
		{"", 1, "", 0, api.ErrShort},
		{"02 07", math.MaxInt, "", 2, api.ErrShort},
		{"02 07", -1, "", 2, api.ErrArg},
		{"", -1, "", 0, api.ErrArg},
		{"02 07", math.MinInt, "", 2, api.ErrArg},
	} {
		r := octet.New(raw(t, c.bytes))
		same(t, "P106: Take over "+c.bytes, r.Take(c.n), raw(t, c.want))
		stands(t, "P106: Take over "+c.bytes, r, c.e, c.left)
		if c.e != api.OK {
			stuck(t, "P106: Take over "+c.bytes, r, c.e, c.left)
		}
	}
}

func TestReaderFaultBehindOthers(t *testing.T) {
	r := octet.New([]byte{2, 7, 8, 5})
	same(t, "P106: Bytes", r.Bytes(2), []byte{7, 8})
	if n := r.Number(4); n != 0 {
		t.Errorf("P106: Number(4) = %d", n)
	}
	stuck(t, "P106: a number behind a list", r, api.ErrNumber, 1)

	r = octet.New([]byte{1, 2, 3, 9})
	if n := r.Number(9); n != 1 {
		t.Errorf("P106: Number = %d", n)
	}
	same(t, "P106: Take", r.Take(1), []byte{2})
	same(t, "P106: Bytes", r.Bytes(9), nil)
	stuck(t, "P106: a list that is not whole", r, api.ErrShort, 2)

	r = octet.New([]byte{1, 2, 3})
	r.Take(1)
	same(t, "P106: Take", r.Take(3), nil)
	stuck(t, "P106: too few bytes left", r, api.ErrShort, 2)

	r = octet.New([]byte{1, 2, 3})
	r.Take(1)
	same(t, "P106: Take of the greatest int", r.Take(math.MaxInt), nil)
	stuck(t, "P106: Take of the greatest int", r, api.ErrShort, 2)
}

func TestReaderEnd(t *testing.T) {
	r := octet.New([]byte{2, 7, 8, 5})
	same(t, "P106: Take", r.Take(3), []byte{2, 7, 8})
	if e := r.End(); e != api.ErrRest {
		t.Errorf("P106: End with a byte left: %d", e)
	}
	stuck(t, "P106: End with a byte left", r, api.ErrRest, 1)

	r = octet.New([]byte{5})
	if r.Number(9); r.End() != api.OK || r.End() != api.OK {
		t.Errorf("P106: End with nothing left: %d", r.End())
	}
	stands(t, "P106: End with nothing left", r, api.OK, 0)
	same(t, "P106: Take(0) behind End", r.Take(0), nil)
	stands(t, "P106: Take(0) behind End", r, api.OK, 0)
	r.Take(1)
	stuck(t, "P106: Take(1) behind End", r, api.ErrShort, 0)

	for _, b := range [][]byte{nil, {}} {
		if e := octet.New(b).End(); e != api.OK {
			t.Errorf("P106: End of nothing: %d", e)
		}
	}
	r = octet.New([]byte{5})
	r.Fail(api.ErrBundle)
	if e := r.End(); e != api.ErrBundle {
		t.Errorf("P106: End with a fault and a byte left: %d", e)
	}
}

func TestReaderFail(t *testing.T) {
	r := octet.New([]byte{5, 6})
	r.Fail(api.OK)
	stands(t, "P106: Fail(OK)", r, api.OK, 2)
	if n := r.Number(9); n != 5 {
		t.Errorf("P106: Number behind Fail(OK) = %d", n)
	}
	r.Fail(api.ErrFrame)
	stuck(t, "P106: Fail", r, api.ErrFrame, 1)
	for _, e := range []api.Errno{-1, 7, math.MaxInt, math.MinInt} {
		r = octet.New([]byte{5})
		r.Fail(e)
		stuck(t, "P106: Fail of a number that is no error's", r, e, 1)
	}
}

// model: P106, sentence by sentence, over what octet.Number answers.
type model struct {
	left  []byte
	fault api.Errno
}

func (m *model) number(most uint64) uint64 {
	if m.fault != api.OK {
		return 0
	}
	n, size, e := octet.Number(m.left)
	if e == api.OK && n > most {
		e = api.ErrNumber
	}
	if m.fault = e; e != api.OK {
		return 0
	}
	m.left = m.left[size:]
	return n
}

func (m *model) take(n int) []byte {
	switch {
	case m.fault != api.OK:
	case n < 0:
		m.fault = api.ErrArg
	case n > len(m.left):
		m.fault = api.ErrShort
	default:
		x := m.left[:n]
		m.left = m.left[n:]
		return x
	}
	return nil
}

func (m *model) list(most int) []byte {
	if m.fault == api.OK && most < 0 {
		m.fault = api.ErrArg
	}
	ahead := m.left
	n := m.number(uint64(most))
	if m.fault == api.OK && n > uint64(len(m.left)) {
		m.fault = api.ErrShort
	}
	if m.fault != api.OK {
		m.left = ahead
		return nil
	}
	return m.take(int(n))
}

func TestReaderAgainstModel(t *testing.T) {
	c := chance()
	for range 20000 {
		b := readable(c)
		r, m := octet.New(b), &model{left: b}
		for range 6 {
			stepBoth(t, c, b, r, m)
		}
		if m.fault == api.OK && len(m.left) > 0 {
			m.fault = api.ErrRest
		}
		if e := r.End(); e != m.fault || r.Err() != m.fault || r.Left() != len(m.left) {
			t.Fatalf("P106: End over %x: %d, %d, left %d, want %d, left %d", b, e, r.Err(), r.Left(), m.fault, len(m.left))
		}
	}
}

// readable: numbers and short lists, and now and then what is neither.
func readable(c *rand.Rand) []byte {
	var b []byte
	for range c.Intn(5) {
		switch c.Intn(4) {
		case 0:
			b = octet.AppendNumber(b, c.Uint64()>>c.Intn(64))
		case 1, 2:
			b = octet.AppendBytes(b, someBytes(c, c.Intn(6)))
		default:
			b = append(b, numberLike(c)...)
		}
	}
	return b
}

func stepBoth(t *testing.T, c *rand.Rand, b []byte, r *octet.Reader, m *model) {
	t.Helper()
	switch c.Intn(3) {
	case 0:
		most := c.Uint64() >> c.Intn(64)
		if n, want := r.Number(most), m.number(most); n != want {
			t.Fatalf("P106: Number(%d) over %x: %d, want %d", most, b, n, want)
		}
	case 1:
		most := c.Intn(10) - 1
		if x, want := r.Bytes(most), m.list(most); !bytes.Equal(x, want) {
			t.Fatalf("P106: Bytes(%d) over %x: %x, want %x", most, b, x, want)
		}
	default:
		n := c.Intn(10) - 1
		if x, want := r.Take(n), m.take(n); !bytes.Equal(x, want) {
			t.Fatalf("P106: Take(%d) over %x: %x, want %x", n, b, x, want)
		}
	}
	if r.Err() != m.fault || r.Left() != len(m.left) {
		t.Fatalf("P106: over %x: fault %d, left %d, want %d, %d", b, r.Err(), r.Left(), m.fault, len(m.left))
	}
}

func TestThereAndBack(t *testing.T) {
	c := chance()
	for range 2000 {
		var b []byte
		var numbers []uint64
		var lists [][]byte
		for range c.Intn(8) {
			n, x := c.Uint64()>>c.Intn(64), someBytes(c, c.Intn(300))
			b = octet.AppendBytes(octet.AppendNumber(b, n), x)
			numbers, lists = append(numbers, n), append(lists, x)
		}
		r := octet.New(b)
		for i := range numbers {
			if n := r.Number(numbers[i]); n != numbers[i] {
				t.Fatalf("P108: Number = %d, want %d", n, numbers[i])
			}
			same(t, "P108: Bytes", r.Bytes(len(lists[i])), lists[i])
		}
		if e := r.End(); e != api.OK {
			t.Fatalf("P108: End = %d", e)
		}
	}
}

func TestNumbersThereAndBack(t *testing.T) {
	var b []byte
	for _, n := range edges() {
		b = octet.AppendNumber(b, n)
	}
	r := octet.New(b)
	for _, n := range edges() {
		if got := r.Number(math.MaxUint64); got != n {
			t.Errorf("P108: Number = %d, want %d", got, n)
		}
	}
	if e := r.End(); e != api.OK {
		t.Errorf("P108: End = %d", e)
	}
}

func TestLaidAgain(t *testing.T) {
	c := chance()
	for range 20000 {
		b := readable(c)
		r := octet.New(b)
		var laid []byte
		for range 6 {
			laid = readAndLay(c, r, laid)
		}
		same(t, "P108: laid again", laid, b[:len(b)-r.Left()])
	}
}

// readAndLay: what one call of the reader gives, laid by the same means; nothing, if it finds a fault.
func readAndLay(c *rand.Rand, r *octet.Reader, laid []byte) []byte {
	switch c.Intn(3) {
	case 0:
		if n := r.Number(math.MaxUint64); r.Err() == api.OK {
			return octet.AppendNumber(laid, n)
		}
	case 1:
		if x := r.Bytes(math.MaxInt); r.Err() == api.OK {
			return octet.AppendBytes(laid, x)
		}
	default:
		return append(laid, r.Take(c.Intn(4))...)
	}
	return laid
}
