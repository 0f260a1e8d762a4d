package seglog_test

import (
	"bytes"
	"slices"
	"testing"

	"halyard/api"
	"halyard/disk"
	"halyard/seglog"
)

// operation: of a disk: a Write; without a text, a Flush.
type operation struct {
	sector int
	text   []byte
}

func (o operation) on(d *disk.Disk) api.Errno {
	if o.text == nil {
		return d.Flush()
	}
	return d.Write(o.sector, o.text)
}

var flush = operation{}

func wipes(sector int) operation { return operation{sector, make([]byte, 128)} }

// alike: two disks that tell the same.
func alike(t *testing.T, what string, d, other *disk.Disk) {
	t.Helper()
	a, b := d.Dirty()
	x, y := other.Dirty()
	if !slices.Equal(a, x) || !slices.Equal(b, y) {
		t.Fatalf("%s: dirty are %v %v, want %v %v", what, a, b, x, y)
	}
	if d.Down() != other.Down() || !bytes.Equal(d.Image(), other.Image()) {
		t.Fatalf("%s: the disk is another one (Down %v, want %v)", what, d.Down(), other.Down())
	}
	for i := range d.Sectors() {
		a, e := d.Read(i)
		b, f := other.Read(i)
		if e != f || !bytes.Equal(a, b) {
			t.Fatalf("%s: sector %d: %x, %d, want %x, %d", what, i, a, e, b, f)
		}
	}
}

// operates: what is done is just these operations in their order: with each fuse, on disks that begin as stand makes them, the first ones of them are, and the answer is ErrPower until there is power for all of them.
func operates(t *testing.T, what string, stand func() (*disk.Disk, func() api.Errno), want ...operation) {
	t.Helper()
	for fuse := 0; fuse <= len(want)+1; fuse++ {
		d, call := stand()
		other, _ := stand()
		alike(t, what+", ahead of it", d, other)
		d.Cut(fuse)
		other.Cut(fuse)
		answer := api.OK
		for _, o := range want {
			if e := o.on(other); e != api.OK {
				answer = e
				break
			}
		}
		is(t, what, call(), answer)
		alike(t, what, d, other)
		d.Crash([]int{1, 1, 1, 1, 1, 1})
		other.Crash([]int{1, 1, 1, 1, 1, 1})
		alike(t, what+", behind a crash", d, other)
	}
}

func TestOperationsOfFormat(t *testing.T) {
	ring := []operation{wipes(3), wipes(4), wipes(5), wipes(6), flush, {2, headText(1, 0, 0, 0, 6)}, flush}
	first0 := append([]operation{wipes(1), flush, wipes(2), flush}, ring...)
	first1 := append([]operation{wipes(2), flush, wipes(1), flush}, ring...)
	format := func(d *disk.Disk) (*disk.Disk, func() api.Errno) {
		return d, func() api.Errno { return seglog.Format(d, 1, 6) }
	}
	noise := bytes.Repeat([]byte{7}, 128)
	ahead := func(sectors map[int][]byte) func() (*disk.Disk, func() api.Errno) {
		return func() (*disk.Disk, func() api.Errno) {
			for i := range 8 {
				if sectors[i] == nil {
					sectors[i] = noise
				}
			}
			return format(forged(t, sectors))
		}
	}
	even, odd := headText(8, 20, 100, 0, 6), headText(9, 30, 200, 0, 6)
	operates(t, "P5.2: none counts", ahead(map[int][]byte{}), first0...)
	operates(t, "P5.2: slot 1 counts", ahead(map[int][]byte{1: even, 2: odd}), first0...)
	operates(t, "P5.2: slot 1 counts alone", ahead(map[int][]byte{2: odd}), first0...)
	operates(t, "P5.2: slot 0 counts", ahead(map[int][]byte{1: headText(10, 0, 0, 0, 6), 2: odd}), first1...)
	operates(t, "P5.2: slot 0 counts alone", ahead(map[int][]byte{1: even}), first1...)
	operates(t, "P5.2: a head of another size", ahead(map[int][]byte{1: headText(8, 20, 100, 0, 7)}), first0...)
	operates(t, "P5.2: a head in the other slot", ahead(map[int][]byte{1: odd, 2: even}), first0...)
	operates(t, "P5.2: unreadable sectors", func() (*disk.Disk, func() api.Errno) {
		d := forged(t, map[int][]byte{1: even, 2: odd})
		tears(t, d, 2)
		tears(t, d, 5)
		return format(d)
	}, first1...)
	operates(t, "P5.2: what is not yet durable counts", func() (*disk.Disk, func() api.Errno) {
		d := forged(t, map[int][]byte{2: odd})
		d.Write(1, headText(10, 0, 0, 0, 6))
		return format(d)
	}, first1...)
}

func TestOperationsOfOpen(t *testing.T) {
	operates(t, "P5.3", func() (*disk.Disk, func() api.Errno) {
		d := forged(t, map[int][]byte{1: headText(8, 20, 5, 0, 6), 4: pieceText(5, 11, 1, 0, "x"), 5: pieceText(6, 12, 1, 0, "y")})
		return d, func() api.Errno { _, e := seglog.Open(d, 1, 6); return e }
	}, operation{2, headText(9, 21, 5, 11, 6)}, flush)
	operates(t, "P5.3: no head", func() (*disk.Disk, func() api.Errno) {
		d := newDisk(t, 8)
		return d, func() api.Errno {
			_, e := seglog.Open(d, 1, 6)
			is(t, "P5.3: no head", e, api.ErrLog)
			return api.OK
		}
	})
}

// working: an open log with two records, the second of which isn't flushed.
func working(t *testing.T, call func(l *seglog.Log) api.Errno) func() (*disk.Disk, func() api.Errno) {
	return func() (*disk.Disk, func() api.Errno) {
		d := formatted(t)
		l := open(t, d)
		appends(t, "P5.4", l, "a", 0, api.OK)
		is(t, "P5.5", l.Flush(), api.OK)
		appends(t, "P5.4", l, "b", 1, api.OK)
		return d, func() api.Errno { return call(l) }
	}
}

func TestOperationsOfALog(t *testing.T) {
	appended := func(rec string) func(l *seglog.Log) api.Errno {
		return func(l *seglog.Log) api.Errno {
			n, e := l.Append([]byte(rec))
			if e != api.OK && (n != 0 || l.Next() != 2) || e == api.OK && n != 2 {
				t.Errorf("P5.4: Append = %d, %d, Next %d", n, e, l.Next())
			}
			return e
		}
	}
	operates(t, "P5.4", working(t, appended("c")), operation{5, pieceText(2, 1, 1, 0, "c")})
	operates(t, "P5.4: by rising number", working(t, appended(two)),
		operation{5, pieceText(2, 1, 105, 0, two[:104])}, operation{6, pieceText(3, 1, 105, 1, two[104:])})
	operates(t, "P5.5", working(t, (*seglog.Log).Flush), flush)
	for n, least := range map[uint64]uint64{1: 1, 2: 1} {
		operates(t, "P5.6", working(t, func(l *seglog.Log) api.Errno {
			e := l.Trim(n)
			if e != api.OK && l.First() != 0 || e == api.OK && l.First() != n || l.Next() != 2 {
				t.Errorf("P5.6: First %d behind Trim(%d): %d", l.First(), n, e)
			}
			return e
		}), operation{2, headText(3, 1, n, least, 6)}, flush)
	}
	operates(t, "P5.6: of less", working(t, func(l *seglog.Log) api.Errno { return l.Trim(0) }))
	operates(t, "P5.7", working(t, func(l *seglog.Log) api.Errno {
		reads(t, "P5.7", l, 1, "b", api.OK)
		reads(t, "P5.7", l, 2, "", api.ErrNone)
		lists(t, "P5.7", l, 0, pair{0, "a"}, pair{1, "b"})
		return api.OK
	}))
	// A record that goes round the end of the ring is written by rising number, not by rising sector.
	operates(t, "P5.4: round the ring", func() (*disk.Disk, func() api.Errno) {
		d := forged(t, map[int][]byte{1: headText(2, 0, 7, 0, 6)})
		l := open(t, d)
		return d, func() api.Errno { _, e := l.Append([]byte(two)); return e }
	}, operation{6, pieceText(7, 1, 105, 0, two[:104])}, operation{3, pieceText(8, 1, 105, 1, two[104:])})
}
