package disk_test

import (
	"bytes"
	"math/rand"
	"slices"
	"testing"

	"halyard/api"
	"halyard/disk"
)

// seen: what Read answers of a sector.
type seen struct {
	b []byte
	e api.Errno
}

func see(d *disk.Disk, i int) seen {
	b, e := d.Read(i)
	return seen{b, e}
}

func seeAll(d *disk.Disk) (out []seen) {
	for i := range d.Sectors() {
		out = append(out, see(d, i))
	}
	return out
}

func (s seen) is(o seen) bool { return s.e == o.e && bytes.Equal(s.b, o.b) }

// worn: a disk that has been through much, with its power and without a fuse.
func worn(t *testing.T, r *rand.Rand, n int) *disk.Disk {
	d := fresh(t, n)
	for range 30 {
		someCall(r, n).onDisk(d)
	}
	if d.Down() {
		d.Crash(someChoices(r))
	}
	d.Cut(-1)
	return d
}

func TestFlushedLasts(t *testing.T) {
	r := rand.New(rand.NewSource(2))
	for range 200 {
		n := 2 + r.Intn(5)
		d := worn(t, r, n)
		is(t, "P4.7", d.Flush(), api.OK)
		kept := r.Intn(n)
		want := see(d, kept)
		for range 40 {
			c := someCall(r, n)
			if c.kind == 'w' && c.i == kept {
				continue
			}
			c.onDisk(d)
			if c.kind == 'x' && !see(d, kept).is(want) {
				t.Fatalf("P4.11: sector %d changed behind Crash(%v)", kept, c.choices)
			}
		}
	}
}

func TestCrashPicks(t *testing.T) {
	r := rand.New(rand.NewSource(3))
	for range 300 {
		n := 1 + r.Intn(5)
		d := worn(t, r, n)
		if r.Intn(2) == 0 {
			d.Flush()
		} else {
			d.Crash(someChoices(r))
		}
		before := seeAll(d)
		written := make([][]seen, n)
		for range r.Intn(8) {
			i, b := r.Intn(n), someText(r)
			is(t, "P4.6", d.Write(i, b), api.OK)
			written[i] = append(written[i], seen{b: b})
		}
		choices := someChoices(r)
		d.Crash(choices)
		for i, s := range seeAll(d) {
			may := append([]seen{before[i]}, written[i]...)
			if len(written[i]) > 0 {
				may = append(may, seen{e: api.ErrTorn})
			}
			if !slices.ContainsFunc(may, s.is) {
				t.Fatalf("P4.12: sector %d behind Crash(%v) is none of what it may be", i, choices)
			}
		}
	}
}

func TestCrashOfNothing(t *testing.T) {
	r := rand.New(rand.NewSource(4))
	for range 100 {
		n := 1 + r.Intn(5)
		d := worn(t, r, n)
		d.Crash(someChoices(r))
		was := d.Image()
		d.Cut(r.Intn(2))
		for range r.Intn(3) {
			d.Flush()
		}
		d.Crash([]int{1, -1, 9, 2, 1, 1, 1})
		image(t, "P4.12: a crash where nothing was written", d, was)
		if d.Down() || d.Flush() != api.OK || d.Flush() != api.OK {
			t.Fatal("P4.12: behind a crash there is power and no fuse")
		}
	}
}

func TestSameDisk(t *testing.T) {
	r := rand.New(rand.NewSource(5))
	for range 150 {
		n := 1 + r.Intn(5)
		var b []byte
		for range n {
			if r.Intn(3) == 0 {
				b = append(b, row(1, text(0))...)
			} else {
				b = append(b, row(0, someText(r))...)
			}
		}
		d := load(t, b)
		image(t, "P4.13: Image of Load", d, b)
		for range 20 {
			someCall(r, n).onDisk(d)
		}
		other := load(t, d.Image())
		d.Crash(nil)
		for range 30 {
			c := someCall(r, n)
			if e, f := c.onDisk(d), c.onDisk(other); e != f {
				t.Fatalf("P4.13: %c: %d, and %d of the loaded disk", c.kind, e, f)
			}
			alike(t, "P4.13", d, other)
		}
	}
}

// alike: two disks answer all that can be asked the same.
func alike(t *testing.T, what string, d, other *disk.Disk) {
	t.Helper()
	a, b := d.Dirty()
	dirty(t, what, other, a, b)
	image(t, what, other, d.Image())
	if d.Down() != other.Down() || d.Sectors() != other.Sectors() || !slices.EqualFunc(seeAll(d), seeAll(other), seen.is) {
		t.Fatalf("%s: two disks that answer differently", what)
	}
}

// operations: writes and flushes that are right, with calls between them that are no operations.
func operations(r *rand.Rand, sectors int) (out []call) {
	for range r.Intn(12) {
		c := someCall(r, sectors)
		if c.kind == 'w' || c.kind == 'f' {
			out = append(out, c)
		}
	}
	return out
}

func TestSoMany(t *testing.T) {
	r := rand.New(rand.NewSource(6))
	for range 200 {
		n := 1 + r.Intn(4)
		d := worn(t, r, n)
		d.Crash(nil)
		whole := load(t, d.Image())
		fuse, choices := r.Intn(6), someChoices(r)
		d.Cut(fuse)
		done := 0
		for _, c := range operations(r, n) {
			right := c.kind == 'f' || len(c.b) == 128 && c.i >= 0 && c.i < n
			want := api.OK
			switch {
			case !right:
				want = api.ErrArg
			case done >= fuse:
				want = api.ErrPower
			default:
				c.onDisk(whole)
			}
			is(t, "P4.14", c.onDisk(d), want)
			if right {
				done++
			}
			if d.Down() != (done > fuse) {
				t.Fatalf("P4.14: Down = %v behind %d operations of Cut(%d)", d.Down(), done, fuse)
			}
		}
		d.Crash(choices)
		whole.Crash(choices)
		alike(t, "P4.14: what these operations left", d, whole)
	}
}

func TestWriteHeals(t *testing.T) {
	torn := func() *disk.Disk {
		d := fresh(t, 2)
		d.Write(1, text('a'))
		d.Crash([]int{9})
		reads(t, "P4.9", d, 1, nil, api.ErrTorn)
		return d
	}
	d := torn()
	is(t, "P4.7", d.Flush(), api.OK)
	reads(t, "P4.15: a flush without a write", d, 1, nil, api.ErrTorn)
	d.Write(1, text('c'))
	reads(t, "P4.15: written", d, 1, text('c'), api.OK)
	d.Crash([]int{0})
	reads(t, "P4.15: written, not flushed", d, 1, nil, api.ErrTorn)
	d.Write(1, text('c'))
	d.Crash([]int{1})
	reads(t, "P4.9: the version is readable", d, 1, text('c'), api.OK)
	d = torn()
	d.Write(1, text('c'))
	is(t, "P4.7", d.Flush(), api.OK)
	for _, c := range []int{7, 0, 1, -1} {
		d.Crash([]int{c})
		reads(t, "P4.15: written and flushed", d, 1, text('c'), api.OK)
	}
	image(t, "P4.15", d, row(0, text(0)), row(0, text('c')))
}
