package disk_test

import (
	"bytes"
	"math"
	"slices"
	"testing"

	"halyard/api"
	"halyard/disk"
)

// text: a sector's text of one byte, again and again.
func text(b byte) []byte { return bytes.Repeat([]byte{b}, 128) }

// row: a sector of an image.
func row(mark byte, text []byte) []byte { return append([]byte{mark}, text...) }

func fresh(t *testing.T, n int) *disk.Disk {
	t.Helper()
	d, e := disk.New(n)
	if d == nil || e != api.OK {
		t.Fatalf("P4.1: New(%d) = %v, %d", n, d, e)
	}
	return d
}

func load(t *testing.T, image []byte) *disk.Disk {
	t.Helper()
	d, e := disk.Load(image)
	if d == nil || e != api.OK {
		t.Fatalf("P4.2: Load of %d bytes = %v, %d", len(image), d, e)
	}
	return d
}

func reads(t *testing.T, what string, d *disk.Disk, i int, want []byte, e api.Errno) {
	t.Helper()
	if b, f := d.Read(i); f != e || !bytes.Equal(b, want) {
		t.Errorf("%s: Read(%d) = %.3v.., %d, want %.3v.., %d", what, i, b, f, want, e)
	}
}

func is(t *testing.T, what string, got, want api.Errno) {
	t.Helper()
	if got != want {
		t.Errorf("%s: %d, want %d", what, got, want)
	}
}

func dirty(t *testing.T, what string, d *disk.Disk, sectors, versions []int) {
	t.Helper()
	if a, b := d.Dirty(); !slices.Equal(a, sectors) || !slices.Equal(b, versions) {
		t.Errorf("%s: Dirty = %v, %v, want %v, %v", what, a, b, sectors, versions)
	}
}

func image(t *testing.T, what string, d *disk.Disk, rows ...[]byte) {
	t.Helper()
	if b := d.Image(); !bytes.Equal(b, slices.Concat(rows...)) {
		t.Errorf("%s: Image (%d bytes) is another one", what, len(b))
	}
}

func TestNew(t *testing.T) {
	for _, n := range []int{math.MinInt, -1, 0, 65537, 1 << 20, math.MaxInt} {
		if d, e := disk.New(n); d != nil || e != api.ErrArg {
			t.Errorf("P4.1: New(%d) = %v, %d", n, d, e)
		}
	}
	for _, n := range []int{1, 2, 65536} {
		d := fresh(t, n)
		if d.Sectors() != n || d.Down() {
			t.Errorf("P4.1: New(%d): Sectors = %d, Down = %v", n, d.Sectors(), d.Down())
		}
		dirty(t, "P4.1: New", d, nil, nil)
		image(t, "P4.1: New", d, make([]byte, 129*n))
		for _, i := range []int{0, n / 2, n - 1} {
			reads(t, "P4.1: New", d, i, text(0), api.OK)
		}
		for _, i := range []int{math.MinInt, -1, n, n + 1, math.MaxInt} {
			reads(t, "P4.4: no such sector", d, i, nil, api.ErrArg)
		}
		for range 5 {
			is(t, "P4.1: there is no fuse", d.Write(n-1, text('a')), api.OK)
			is(t, "P4.1: there is no fuse", d.Flush(), api.OK)
		}
		reads(t, "P4.7: Flush", d, n-1, text('a'), api.OK)
	}
}

func TestLoadRefuses(t *testing.T) {
	with := func(mark byte, at int) []byte {
		b := row(mark, text(0))
		b[at] |= 0x80
		return b
	}
	good := row(0, text('a'))
	for what, b := range map[string][]byte{
		"nil":                                  nil,
		"nothing":                              {},
		"one byte":                             {0},
		"a text":                               text(0),
		"a byte more":                          make([]byte, 130),
		"a byte less than two":                 make([]byte, 257),
		"too many sectors":                     make([]byte, 129*65537),
		"a byte more than all":                 make([]byte, 129*65536+1),
		"the byte 2":                           row(2, text(0)),
		"the byte 255":                         row(255, text(0)),
		"the byte 128":                         row(128, text(0)),
		"unreadable, with a text":              row(1, text('a')),
		"unreadable, with a first byte":        with(1, 1),
		"unreadable, with a byte in the midst": with(1, 64),
		"unreadable, with a last byte":         with(1, 128),
		"the byte 2 in the second":             slices.Concat(good, row(2, text(0)), good),
		"the byte 2 in the last":               slices.Concat(good, good, row(2, text(0))),
		"unreadable with a byte, the last":     slices.Concat(good, good, with(1, 128)),
	} {
		if d, e := disk.Load(b); d != nil || e != api.ErrArg {
			t.Errorf("P4.2: Load: %s: %v, %d", what, d, e)
		}
	}
}

func TestLoad(t *testing.T) {
	rows := [][]byte{row(1, text(0)), row(0, text('a')), row(0, text(0)), row(0, text(1)), row(1, text(0))}
	d := load(t, slices.Concat(rows...))
	image(t, "P4.2: Load", d, rows...)
	if d.Sectors() != 5 || d.Down() {
		t.Errorf("P4.2: Load: Sectors = %d, Down = %v", d.Sectors(), d.Down())
	}
	dirty(t, "P4.2: Load", d, nil, nil)
	reads(t, "P4.2: Load", d, 0, nil, api.ErrTorn)
	reads(t, "P4.2: Load", d, 1, text('a'), api.OK)
	reads(t, "P4.2: Load", d, 2, text(0), api.OK)
	reads(t, "P4.2: Load", d, 3, text(1), api.OK)
	reads(t, "P4.2: Load", d, 4, nil, api.ErrTorn)
	for range 5 {
		is(t, "P4.2: Load: there is no fuse", d.Flush(), api.OK)
	}
	most := make([]byte, 129*65536)
	copy(most[129*65535:], row(0, text('z')))
	d = load(t, most)
	if d.Sectors() != 65536 {
		t.Errorf("P4.2: Load: Sectors = %d", d.Sectors())
	}
	reads(t, "P4.2: Load", d, 65535, text('z'), api.OK)
	image(t, "P4.2: Load", d, most)
}

func TestImageHasNoCache(t *testing.T) {
	d := fresh(t, 2)
	d.Write(1, text('a'))
	image(t, "P4.2: behind a Write", d, row(0, text(0)), row(0, text(0)))
	d.Flush()
	d.Write(1, text('b'))
	d.Cut(0)
	is(t, "P4.5", d.Flush(), api.ErrPower)
	image(t, "P4.2: without power", d, row(0, text(0)), row(0, text('a')))
	d.Crash([]int{5})
	image(t, "P4.2: unreadable", d, row(0, text(0)), row(1, text(0)))
	d.Write(1, text('c'))
	image(t, "P4.2: unreadable and written", d, row(0, text(0)), row(1, text(0)))
}

func TestDirtyIsSorted(t *testing.T) {
	d := fresh(t, 65536)
	var sectors, versions []int
	for i := 65535; i > 0; i = i * 3 / 4 {
		sectors, versions = append(sectors, i), append(versions, 1+i%3)
		for range 1 + i%3 {
			is(t, "P4.6", d.Write(i, text(byte(i))), api.OK)
		}
	}
	slices.Reverse(sectors)
	slices.Reverse(versions)
	for range 3 {
		dirty(t, "P4.3", d, sectors, versions)
	}
	d.Cut(0)
	d.Flush()
	dirty(t, "P4.3: without power", d, sectors, versions)
}

func TestOrderOfErrors(t *testing.T) {
	d := load(t, slices.Concat(row(0, text('a')), row(1, text(0))))
	d.Cut(0)
	is(t, "P4.6: no sector, ahead of the fuse", d.Write(2, text('a')), api.ErrArg)
	is(t, "P4.6: a short text, ahead of the fuse", d.Write(0, text('a')[1:]), api.ErrArg)
	is(t, "P4.6: a long text, ahead of the fuse", d.Write(0, make([]byte, 129)), api.ErrArg)
	is(t, "P4.6: no text, ahead of the fuse", d.Write(0, nil), api.ErrArg)
	reads(t, "P4.4: the fuse isn't touched", d, 1, nil, api.ErrTorn)
	if d.Down() {
		t.Error("P4.5: what is no operation took the power")
	}
	is(t, "P4.5", d.Write(0, text('b')), api.ErrPower)
	is(t, "P4.6: no sector, without power", d.Write(-1, text('a')), api.ErrArg)
	is(t, "P4.6: a long text, without power", d.Write(0, make([]byte, 129)), api.ErrArg)
	is(t, "P4.6: without power", d.Write(0, text('b')), api.ErrPower)
	is(t, "P4.7: without power", d.Flush(), api.ErrPower)
	reads(t, "P4.4: no sector, without power", d, 2, nil, api.ErrArg)
	reads(t, "P4.4: unreadable, without power", d, 1, nil, api.ErrPower)
	reads(t, "P4.4: without power", d, 0, nil, api.ErrPower)
}

func TestExamplesOfCrash(t *testing.T) {
	for _, c := range []struct {
		choices []int
		want    []byte
		e       api.Errno
		row     []byte
	}{
		{[]int{1}, text('a'), api.OK, row(0, text('a'))},
		{[]int{2}, text('b'), api.OK, row(0, text('b'))},
		{[]int{3}, nil, api.ErrTorn, row(1, text(0))},
		{[]int{-1}, nil, api.ErrTorn, row(1, text(0))},
		{[]int{math.MinInt}, nil, api.ErrTorn, row(1, text(0))},
		{[]int{math.MaxInt}, nil, api.ErrTorn, row(1, text(0))},
		{nil, text(0), api.OK, row(0, text(0))},
		{[]int{}, text(0), api.OK, row(0, text(0))},
		{[]int{0, 1, 2, -1}, text(0), api.OK, row(0, text(0))},
		{[]int{2, 7}, text('b'), api.OK, row(0, text('b'))},
	} {
		d := fresh(t, 3)
		d.Write(1, text('a'))
		d.Write(1, text('b'))
		reads(t, "P4.6: the newest version", d, 1, text('b'), api.OK)
		dirty(t, "P4.3", d, []int{1}, []int{2})
		d.Crash(c.choices)
		reads(t, "P4.9", d, 1, c.want, c.e)
		dirty(t, "P4.9", d, nil, nil)
		image(t, "P4.9", d, row(0, text(0)), c.row, row(0, text(0)))
	}
}

func TestCrashGoesByRisingNumber(t *testing.T) {
	for _, c := range []struct {
		choices     []int
		zero, two   []byte
		faultOfZero api.Errno
	}{
		{[]int{0, 1}, text(0), text('a'), api.OK},
		{[]int{1}, text('b'), text(0), api.OK},
		{[]int{1, 1}, text('b'), text('a'), api.OK},
		{[]int{2, 1}, nil, text('a'), api.ErrTorn},
	} {
		d := fresh(t, 3)
		d.Write(2, text('a'))
		d.Write(0, text('b'))
		dirty(t, "P4.3", d, []int{0, 2}, []int{1, 1})
		d.Crash(c.choices)
		reads(t, "P4.9", d, 0, c.zero, c.faultOfZero)
		reads(t, "P4.9", d, 1, text(0), api.OK)
		reads(t, "P4.9", d, 2, c.two, api.OK)
	}
}

func TestExampleOfCut(t *testing.T) {
	d := fresh(t, 3)
	d.Cut(2)
	is(t, "P4.6", d.Write(0, text('a')), api.OK)
	is(t, "P4.6: no operation", d.Write(9, text('a')), api.ErrArg)
	is(t, "P4.7", d.Flush(), api.OK)
	if d.Down() {
		t.Error("P4.5: the power is there till the next operation")
	}
	is(t, "P4.5", d.Write(0, text('b')), api.ErrPower)
	if !d.Down() {
		t.Error("P4.5: the power is gone")
	}
	dirty(t, "P4.5: nothing else changes", d, nil, nil)
	reads(t, "P4.4", d, 0, nil, api.ErrPower)
	is(t, "P4.7", d.Flush(), api.ErrPower)
	d.Cut(5)
	is(t, "P4.8: without power", d.Flush(), api.ErrPower)
	d.Crash(nil)
	if d.Down() {
		t.Error("P4.9: the power is there")
	}
	reads(t, "P4.9", d, 0, text('a'), api.OK)
	for range 9 {
		is(t, "P4.9: there is no fuse", d.Write(0, text('b')), api.OK)
	}
}

func TestCut(t *testing.T) {
	d := fresh(t, 1)
	for _, n := range []int{-1, -2, math.MinInt} {
		d.Cut(0)
		d.Cut(n)
		is(t, "P4.8: Cut below 0", d.Flush(), api.OK)
		is(t, "P4.8: Cut below 0", d.Flush(), api.OK)
	}
	d.Cut(0)
	d.Cut(1)
	is(t, "P4.8: the last Cut holds", d.Flush(), api.OK)
	is(t, "P4.8: the last Cut holds", d.Flush(), api.ErrPower)
	for _, n := range []int{-1, 0, 5} {
		d.Cut(n)
		is(t, "P4.8: Cut without power", d.Flush(), api.ErrPower)
	}
	d.Crash(nil)
	d.Cut(1)
	d.Crash(nil)
	for range 3 {
		is(t, "P4.9: a crash takes the fuse", d.Flush(), api.OK)
	}
	d.Cut(math.MaxInt)
	for range 5 {
		is(t, "P4.8: a great fuse", d.Write(0, text('a')), api.OK)
	}
	d.Cut(0)
	is(t, "P4.7: a flush of nothing is an operation", d.Flush(), api.ErrPower)
	dirty(t, "P4.5: nothing else changes", d, []int{0}, []int{5})
}

func TestNobody(t *testing.T) {
	for name, d := range map[string]*disk.Disk{"nil": nil, "of no constructor": {}, "of new": new(disk.Disk)} {
		// Twice: what was called on it before changes nothing.
		for range 2 {
			for _, i := range []int{math.MinInt, -1, 0, 1, math.MaxInt} {
				reads(t, "P4.10: "+name, d, i, nil, api.ErrArg)
				is(t, "P4.10: "+name+": Write", d.Write(i, text('a')), api.ErrArg)
				is(t, "P4.10: "+name+": Write of nothing", d.Write(i, nil), api.ErrArg)
				d.Cut(i)
				is(t, "P4.10: "+name+": Flush", d.Flush(), api.ErrArg)
				d.Crash([]int{i})
			}
			d.Crash(nil)
			dirty(t, "P4.10: "+name, d, nil, nil)
			image(t, "P4.10: "+name, d)
			if d.Sectors() != 0 || d.Down() {
				t.Errorf("P4.10: %s: Sectors = %d, Down = %v", name, d.Sectors(), d.Down())
			}
		}
	}
}
