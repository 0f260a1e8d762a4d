package disk_test

import (
	"bytes"
	"slices"
	"testing"

	"halyard/api"
)

// roomy: the list, with room behind it that holds a pattern.
func roomy[T any](l []T, pattern T) []T {
	all := slices.Clone(l)
	for range 200 {
		all = append(all, pattern)
	}
	return all[:len(l)]
}

// whole: all that a list can reach.
func whole[T any](l []T) []T { return l[:cap(l)] }

// spoil: writes over all that a list can reach.
func spoil[T any](l []T, pattern T) {
	for i := range whole(l) {
		whole(l)[i] = pattern
	}
}

func TestArgumentsStayAndAreNotKept(t *testing.T) {
	rows := slices.Concat(row(0, text('a')), row(1, text(0)))
	b := roomy(rows, 0xa5)
	was := bytes.Clone(whole(b))
	d := load(t, b)
	if !bytes.Equal(whole(b), was) {
		t.Error("P1: Load changed what it was given")
	}
	spoil(b, 0x5a)
	image(t, "P1: Load kept what it was given", d, rows)

	x := roomy(text('b'), 0xa5)
	was = bytes.Clone(whole(x))
	is(t, "P4.6", d.Write(1, x), api.OK)
	if !bytes.Equal(whole(x), was) {
		t.Error("P1: Write changed what it was given")
	}
	spoil(x, 0x5a)
	reads(t, "P4.6: b is copied", d, 1, text('b'), api.OK)
	spoil(x, 0x11)
	is(t, "P4.7", d.Flush(), api.OK)
	reads(t, "P4.6: b is copied", d, 1, text('b'), api.OK)

	d.Write(0, text('x'))
	d.Write(1, text('y'))
	choices := roomy([]int{1, 0, 7}, 1234)
	wasChoices := slices.Clone(whole(choices))
	d.Crash(choices)
	if !slices.Equal(whole(choices), wasChoices) {
		t.Error("P4.9: choices stays as it is")
	}
	image(t, "P4.9", d, row(0, text('x')), row(0, text('b')))
}

// The room behind choices is none of its places.
func TestRoomBehindChoices(t *testing.T) {
	d := fresh(t, 1)
	d.Write(0, text('a'))
	d.Crash(roomy([]int{}, 1))
	reads(t, "P4.9: choices has no place 0", d, 0, text(0), api.OK)
}

func TestAnswersAreNew(t *testing.T) {
	d := load(t, slices.Concat(row(0, text('a')), row(1, text(0)), row(0, text('c'))))
	d.Write(2, text('d'))
	d.Write(2, text('e'))
	d.Write(1, text('f'))
	other := fresh(t, 1)
	for range 2 {
		for i, want := range [][]byte{text('a'), text('f'), text('e')} {
			x, _ := d.Read(i)
			y, _ := d.Read(i)
			spoil(x, 0x5a)
			if !bytes.Equal(y, want) {
				t.Errorf("P1: Read(%d): two answers share memory", i)
			}
			spoil(y, 0x66)
			reads(t, "P1: Read shares memory with the disk", d, i, want, api.OK)
		}
		x, y := d.Image(), d.Image()
		spoil(x, 0x5a)
		if !bytes.Equal(y, d.Image()) {
			t.Error("P1: Image: two answers share memory")
		}
		spoil(y, 0x66)
		image(t, "P1: Image shares memory with the disk", d, row(0, text('a')), row(1, text(0)), row(0, text('c')))
		a, b := d.Dirty()
		spoil(a, 99)
		if !slices.Equal(b, []int{1, 2}) {
			t.Errorf("P1: Dirty: its lists share memory: %v", b)
		}
		spoil(b, 98)
		dirty(t, "P1: Dirty shares memory with the disk", d, []int{1, 2}, []int{1, 2})
	}
	reads(t, "P4.1: two disks share a cache", other, 0, text(0), api.OK)
	dirty(t, "P4.1: two disks share a cache", other, nil, nil)
}

// A version is picked as it was written, whatever was written behind it.
func TestVersionsStandApart(t *testing.T) {
	for c := 1; c <= 40; c++ {
		d := fresh(t, 2)
		for v := 1; v <= 40; v++ {
			d.Write(0, text(byte(v)))
			d.Write(1, text(byte(100+v)))
		}
		dirty(t, "P4.3", d, []int{0, 1}, []int{40, 40})
		d.Crash([]int{c, 41 - c})
		reads(t, "P4.9", d, 0, text(byte(c)), api.OK)
		reads(t, "P4.9", d, 1, text(byte(141-c)), api.OK)
	}
}

func TestDisksOfOneImage(t *testing.T) {
	b := row(0, text('a'))
	d, other := load(t, b), load(t, b)
	d.Write(0, text('b'))
	d.Flush()
	d.Cut(0)
	reads(t, "P4.2: two disks of one image share a sector", other, 0, text('a'), api.OK)
	is(t, "P4.2: two disks of one image share a fuse", other.Flush(), api.OK)
}
