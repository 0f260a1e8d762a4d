package seglog_test

import (
	"bytes"
	"encoding/binary"
	"hash/crc32"
	"testing"

	"halyard/api"
	"halyard/disk"
	"halyard/seglog"
)

// forged: a disk of eight sectors, of which these are written.
func forged(t *testing.T, sectors map[int][]byte) *disk.Disk {
	t.Helper()
	d := newDisk(t, 8)
	for i, b := range sectors {
		is(t, "P4.6", d.Write(i, b), api.OK)
	}
	is(t, "P4.7", d.Flush(), api.OK)
	return d
}

// resealed: the text with one byte put in another's place, and its seal as it must be.
func resealed(b []byte, at int, c byte) []byte {
	b = bytes.Clone(b[:124])
	b[at] = c
	return binary.LittleEndian.AppendUint32(b, crc32.ChecksumIEEE(b))
}

func turned(b []byte, at int) []byte {
	b = bytes.Clone(b)
	b[at] ^= 0x10
	return b
}

func TestBytesOfHeads(t *testing.T) {
	d := formatted(t)
	holds(t, "P5.2: the first head", d, 2, headText(1, 0, 0, 0, 6))
	holds(t, "P5.2: the other slot", d, 1, make([]byte, 128))
	l := open(t, d)
	holds(t, "P5.3: the head of Open", d, 1, headText(2, 1, 0, 1, 6))
	holds(t, "P5.3: the head ahead of it", d, 2, headText(1, 0, 0, 0, 6))
	appends(t, "P5.4", l, "a", 0, api.OK)
	appends(t, "P5.4", l, "b", 1, api.OK)
	l = open(t, d)
	holds(t, "5.3: the least epoch is the first record's", d, 2, headText(3, 2, 0, 1, 6))
	is(t, "P5.6", l.Trim(1), api.OK)
	holds(t, "5.3: the least epoch is that of the record at n", d, 1, headText(4, 2, 1, 1, 6))
	appends(t, "P5.4", l, "c", 2, api.OK)
	is(t, "P5.6", l.Trim(2), api.OK)
	holds(t, "5.3", d, 2, headText(5, 2, 2, 2, 6))
	is(t, "P5.6", l.Trim(3), api.OK)
	holds(t, "5.3: no record begins there", d, 1, headText(6, 2, 3, 2, 6))
	open(t, d)
	holds(t, "5.3: no record begins there", d, 2, headText(7, 3, 3, 3, 6))
}

func TestBytesOfPieces(t *testing.T) {
	d := forged(t, map[int][]byte{1: headText(0x1234567890ac, 0x0a0b0c0d0e0e, 0x112233445566, 0, 6)})
	l := open(t, d)
	number := uint64(0x112233445566) // 2 modulo 4
	rec := letters(250)
	appends(t, "P5.4", l, rec, number, api.OK)
	holds(t, "5.3: piece 0", d, 5, pieceText(number, 0x0a0b0c0d0e0f, 250, 0, rec[:104]))
	holds(t, "5.3: piece 1", d, 6, pieceText(number+1, 0x0a0b0c0d0e0f, 250, 1, rec[104:208]))
	holds(t, "5.3: piece 2", d, 3, pieceText(number+2, 0x0a0b0c0d0e0f, 250, 2, rec[208:]))
	appends(t, "P5.4", l, "", number+3, api.OK)
	holds(t, "5.3: no bytes", d, 4, pieceText(number+3, 0x0a0b0c0d0e0f, 0, 0, ""))
	holds(t, "5.2", d, 2, headText(0x1234567890ad, 0x0a0b0c0d0e0f, number, 0x0a0b0c0d0e0f, 6))
}

// Which head counts: the greater generation of those that are heads and lie in their slots.
func TestWhichHeadCounts(t *testing.T) {
	even, odd := headText(8, 20, 100, 0, 6), headText(9, 30, 200, 0, 6)
	wide := headText(1<<40, 20, 100, 0, 6)
	for _, c := range []struct {
		what    string
		sectors map[int][]byte
		e       api.Errno
		epoch   uint64
	}{
		{"both", map[int][]byte{1: even, 2: odd}, api.OK, 31},
		{"the even one alone", map[int][]byte{1: even}, api.OK, 21},
		{"the odd one alone", map[int][]byte{2: odd}, api.OK, 31},
		{"the odd one in slot 0", map[int][]byte{1: odd}, api.ErrLog, 0},
		{"the even one in slot 1", map[int][]byte{2: even}, api.ErrLog, 0},
		{"each in the other's slot", map[int][]byte{1: odd, 2: even}, api.ErrLog, 0},
		{"the odd one in both", map[int][]byte{1: odd, 2: odd}, api.OK, 31},
		{"a great generation", map[int][]byte{1: wide, 2: odd}, api.OK, 21},
		{"a gap between generations", map[int][]byte{1: even, 2: headText(3, 30, 0, 0, 6)}, api.OK, 21},
		{"generation 0", map[int][]byte{1: headText(0, 5, 0, 0, 6)}, api.ErrLog, 0},
		{"generation 0 and another", map[int][]byte{1: headText(0, 5, 0, 0, 6), 2: headText(1, 3, 0, 0, 6)}, api.OK, 4},
		{"another size", map[int][]byte{1: headText(8, 20, 0, 0, 5)}, api.ErrLog, 0},
		{"a size with a high byte", map[int][]byte{1: resealed(even, 31, 1)}, api.ErrLog, 0},
		{"another size that is newer", map[int][]byte{1: headText(10, 20, 0, 0, 7), 2: odd}, api.OK, 31},
		{"another mark", map[int][]byte{1: resealed(even, 3, 0x50)}, api.ErrLog, 0},
		{"another mark", map[int][]byte{1: resealed(even, 0, 0)}, api.ErrLog, 0},
		{"no zero behind the size", map[int][]byte{1: resealed(even, 32, 1)}, api.ErrLog, 0},
		{"no zero ahead of the seal", map[int][]byte{1: resealed(even, 123, 1), 2: headText(3, 30, 0, 0, 6)}, api.OK, 31},
		{"a broken seal", map[int][]byte{1: turned(even, 127)}, api.ErrLog, 0},
		{"a turned bit", map[int][]byte{1: turned(even, 12), 2: headText(3, 30, 0, 0, 6)}, api.OK, 31},
		{"nothing", nil, api.ErrLog, 0},
	} {
		d := forged(t, c.sectors)
		was := d.Image()
		l, e := seglog.Open(d, 1, 6)
		is(t, "P5.3: "+c.what, e, c.e)
		if l.Epoch() != c.epoch {
			t.Errorf("P5.3: %s: Epoch %d, want %d", c.what, l.Epoch(), c.epoch)
		}
		if c.e != api.OK && !bytes.Equal(was, d.Image()) {
			t.Errorf("P5.3: %s: an Open that is refused writes", c.what)
		}
	}
	d := forged(t, map[int][]byte{1: even, 2: odd})
	tears(t, d, 2)
	tells(t, "P5.3: the newer one is unreadable", open(t, d), 21, 100, 100)
	d = forged(t, map[int][]byte{1: even, 2: odd})
	tears(t, d, 1)
	tells(t, "P5.3: the older one is unreadable", open(t, d), 31, 200, 200)
	tears(t, d, 1)
	tears(t, d, 2)
	_, e := seglog.Open(d, 1, 6)
	is(t, "P5.3: both are unreadable", e, api.ErrLog)
}

func TestCountersAtTheirEnd(t *testing.T) {
	for _, c := range []struct {
		generation, epoch uint64
		e                 api.Errno
	}{
		{most, 5, api.ErrEnd}, {8, most, api.ErrEnd}, {most, most, api.ErrEnd},
		{most - 1, 5, api.OK}, {8, most - 1, api.OK}, {most - 1, most - 1, api.OK},
	} {
		slot := 1 + int(c.generation%2)
		d := forged(t, map[int][]byte{slot: headText(c.generation, c.epoch, 7, 0, 6)})
		was := d.Image()
		l, e := seglog.Open(d, 1, 6)
		is(t, "P5.3: the end of generations and epochs", e, c.e)
		if c.e != api.OK {
			if l != nil || !bytes.Equal(was, d.Image()) {
				t.Error("P5.3: ErrEnd changed something")
			}
			continue
		}
		tells(t, "P5.3", l, c.epoch+1, 7, 7)
		appends(t, "P5.4", l, "a", 7, api.OK)
		if c.generation+1 == most {
			was = d.Image()
			is(t, "P5.6: of less", l.Trim(7), api.OK)
			is(t, "P5.6: ErrNone comes first", l.Trim(9), api.ErrNone)
			is(t, "P5.6: the end of generations", l.Trim(8), api.ErrEnd)
			tells(t, "P5.6: ErrEnd changes nothing", l, c.epoch+1, 7, 8)
			reads(t, "P5.6: ErrEnd changes nothing", l, 7, "a", api.OK)
			if !bytes.Equal(was, d.Image()) {
				t.Error("P5.6: ErrEnd writes")
			}
			is(t, "P5.5", l.Flush(), api.OK)
		} else {
			is(t, "P5.6", l.Trim(8), api.OK)
		}
	}
}

func TestNumbersAtTheirEnd(t *testing.T) {
	d := forged(t, map[int][]byte{1: headText(2, 1, most-1, 1, 6)})
	l := open(t, d)
	tells(t, "P5.3", l, 2, most-1, most-1)
	appends(t, "P5.4: ErrArg comes first", l, letters(8193), 0, api.ErrArg)
	appends(t, "P5.4: the end of numbers", l, letters(209), 0, api.ErrEnd)
	appends(t, "P5.4: ErrEnd is ahead of ErrFull", l, letters(8192), 0, api.ErrEnd)
	appends(t, "P5.4: the last two", l, two, most-1, api.OK)
	tells(t, "P5.8", l, 2, most-1, most+1)
	appends(t, "P5.4: no number is left", l, "", 0, api.ErrEnd)
	reads(t, "P5.7", l, most-1, two, api.OK)
	reads(t, "P5.7", l, most, "", api.ErrNone)
	reads(t, "P5.7", l, most+1, "", api.ErrNone)
	is(t, "P5.6", l.Trim(most), api.ErrNone)
	is(t, "P5.6: next is above MaxNumber", l.Trim(most+1), api.ErrEnd)
	is(t, "P5.6", l.Trim(most+2), api.ErrNone)
	is(t, "P5.5", l.Flush(), api.OK)
	l = open(t, d)
	tells(t, "P5.3", l, 3, most-1, most+1)
	lists(t, "P5.7", l, 0, pair{most - 1, two})
	appends(t, "P5.4: no number is left", l, "", 0, api.ErrEnd)
	bringDown(t, d)
	appends(t, "P5.4: ErrPower is ahead of ErrEnd", l, "", 0, api.ErrPower)
	is(t, "P5.6: ErrPower is ahead of ErrEnd", l.Trim(most+1), api.ErrPower)

	d = forged(t, map[int][]byte{1: headText(2, 1, most, 1, 6)})
	l = open(t, d)
	appends(t, "P5.4", l, two, 0, api.ErrEnd)
	appends(t, "P5.4: the last one", l, "z", most, api.OK)
	is(t, "P5.6: ErrEnd", l.Trim(most+1), api.ErrEnd)
	is(t, "P5.6: First", l.Trim(most), api.OK)
	lists(t, "P5.7", l, most, pair{most, "z"})

	// Number 0 of six bytes is not the number behind MaxNumber.
	d = forged(t, map[int][]byte{1: headText(2, 1, most, 0, 6), 6: pieceText(most, 1, 105, 0, letters(104)), 3: pieceText(0, 1, 105, 1, "x")})
	tells(t, "5.3: a number above MaxNumber", open(t, d), 2, most, most)
	d = forged(t, map[int][]byte{1: headText(2, 1, most, 0, 6), 6: pieceText(most, 1, 1, 0, "x"), 3: pieceText(0, 1, 1, 0, "y")})
	tells(t, "5.3: a number above MaxNumber", open(t, d), 2, most, most+1)
}

// What a sector of the ring must hold: one record of two pieces at 41, of epoch 5, in a log whose head says 3 to 7.
func TestWhatIsThere(t *testing.T) {
	rec := letters(150)
	front, back := pieceText(41, 5, 150, 0, rec[:104]), pieceText(42, 5, 150, 1, rec[104:])
	for _, c := range []struct {
		what        string
		front, back []byte
		next        uint64
	}{
		{"whole", front, back, 43},
		{"the least epoch", pieceText(41, 3, 150, 0, rec[:104]), pieceText(42, 3, 150, 1, rec[104:]), 43},
		{"the greatest epoch", pieceText(41, 7, 150, 0, rec[:104]), pieceText(42, 7, 150, 1, rec[104:]), 43},
		{"below the least epoch", pieceText(41, 2, 150, 0, rec[:104]), pieceText(42, 2, 150, 1, rec[104:]), 41},
		{"above the greatest epoch", pieceText(41, 8, 150, 0, rec[:104]), pieceText(42, 8, 150, 1, rec[104:]), 41},
		{"a greater epoch behind", front, pieceText(42, 6, 150, 1, rec[104:]), 41},
		{"a lesser epoch behind", front, pieceText(42, 4, 150, 1, rec[104:]), 41},
		{"another number in front", pieceText(45, 5, 150, 0, rec[:104]), back, 41},
		{"another number behind", front, pieceText(46, 5, 150, 1, rec[104:]), 41},
		{"another length behind", front, pieceText(42, 5, 151, 1, rec[104:]), 41},
		{"another place behind", front, pieceText(42, 5, 150, 0, rec[:104]), 41},
		{"no front", pieceText(41, 5, 150, 1, rec[104:]), back, 41},
		{"a place that is none", front, pieceText(42, 5, 150, 2, ""), 41},
		{"one piece alone", pieceText(41, 5, 104, 0, rec[:104]), back, 42},
		{"one piece, and one more record", pieceText(41, 5, 104, 0, rec[:104]), pieceText(42, 5, 0, 0, ""), 43},
		{"a record of a lesser epoch behind", pieceText(41, 5, 104, 0, rec[:104]), pieceText(42, 4, 0, 0, ""), 42},
		{"a record of a greater epoch behind", pieceText(41, 5, 104, 0, rec[:104]), pieceText(42, 6, 0, 0, ""), 43},
		{"a record of an epoch that is too great behind", pieceText(41, 5, 104, 0, rec[:104]), pieceText(42, 8, 0, 0, ""), 42},
		{"no piece", make([]byte, 128), back, 41},
		{"no piece behind", front, make([]byte, 128), 41},
		{"a head", headText(1, 5, 41, 0, 6), back, 41},
		{"another mark", resealed(front, 3, 'H'), back, 41},
		{"another mark behind", front, resealed(back, 1, 0), 41},
		{"a broken seal", turned(front, 124), back, 41},
		{"a broken seal behind", front, turned(back, 127), 41},
		{"a turned bit", turned(front, 50), back, 41},
		{"no zero behind the bytes", front, resealed(back, 123, 1), 41},
		{"no zero right behind the bytes", front, resealed(back, 20+46, 1), 41},
		{"no zero behind no bytes", pieceText(41, 5, 0, 0, "x"), back, 41},
		{"too long a record", pieceText(41, 5, 8193, 0, rec[:104]), pieceText(42, 5, 8193, 1, rec[:104]), 41},
		{"the greatest length", pieceText(41, 5, 65535, 0, rec[:104]), back, 41},
		{"the greatest place", pieceText(41, 5, 150, 65535, ""), back, 41},
	} {
		d := forged(t, map[int][]byte{2: headText(9, 7, 41, 3, 6), 4: c.front, 5: c.back})
		l := open(t, d)
		tells(t, "5.3: "+c.what, l, 8, 41, c.next)
		if c.what == "whole" {
			reads(t, "5.3", l, 41, rec, api.OK)
		}
	}
}

// Where a sector can't be read, the records end.
func TestUnreadableWhenOpened(t *testing.T) {
	for sector, next := range map[int]uint64{3: 0, 4: 1, 5: 1, 6: 3} {
		d := formatted(t)
		l := open(t, d)
		appends(t, "P5.4", l, "a", 0, api.OK)
		appends(t, "P5.4", l, two, 1, api.OK)
		appends(t, "P5.4", l, "b", 3, api.OK)
		tears(t, d, sector)
		l = open(t, d)
		tells(t, "5.3: an unreadable sector", l, 2, 0, next)
		appends(t, "P4.15: a write heals", l, "c", next, api.OK)
		reads(t, "P4.15: a write heals", l, next, "c", api.OK)
	}
}

// A record that goes round the whole ring is there; one that would be longer is not.
func TestRoundTheRing(t *testing.T) {
	rec := letters(416)
	d := forged(t, map[int][]byte{2: headText(9, 7, 42, 3, 6)})
	for i := range 4 {
		n := uint64(42 + i)
		writes(t, d, 3+int(n%4), pieceText(n, 5, 416, i, rec[104*i:104*i+104]))
	}
	l := open(t, d)
	tells(t, "5.3", l, 8, 42, 46)
	reads(t, "P5.7", l, 42, rec, api.OK)
	for i := range 4 {
		n := uint64(42 + i)
		writes(t, d, 3+int(n%4), pieceText(n, 5, 417, i, rec[104*i:104*i+104]))
	}
	tells(t, "5.3: five pieces in a ring of four", open(t, d), 9, 42, 42)
	reads(t, "P5.7: five pieces in a ring of four", l, 42, "", api.ErrLog)
}

// What Read answers of sectors that somebody else wrote to.
func TestReadsWhatIsThere(t *testing.T) {
	stand := func() (*disk.Disk, *seglog.Log) {
		d := formatted(t)
		l := open(t, d)
		appends(t, "P5.4", l, "a", 0, api.OK)
		appends(t, "P5.4", l, letters(300), 1, api.OK)
		is(t, "P5.5", l.Flush(), api.OK)
		return d, l
	}
	bad := make([]byte, 128)
	d, l := stand()
	tears(t, d, 4)
	reads(t, "P5.7: its first piece is unreadable", l, 1, "", api.ErrTorn)
	reads(t, "P5.7: another record", l, 0, "a", api.OK)
	lists(t, "P5.7: up to the first that has an error", l, 0, pair{0, "a"})
	lists(t, "P5.7: up to the first that has an error", l, 1)
	d, l = stand()
	writes(t, d, 4, bad)
	reads(t, "P5.7: its first piece is none", l, 1, "", api.ErrLog)
	lists(t, "P5.7", l, 0, pair{0, "a"})
	d, l = stand()
	tears(t, d, 6)
	reads(t, "P5.7: its last piece is unreadable", l, 1, "", api.ErrTorn)
	writes(t, d, 5, bad)
	reads(t, "P5.7: the first that makes it so is no piece", l, 1, "", api.ErrLog)
	d, l = stand()
	writes(t, d, 6, bad)
	reads(t, "P5.7: its last piece is none", l, 1, "", api.ErrLog)
	tears(t, d, 5)
	reads(t, "P5.7: the first that makes it so is unreadable", l, 1, "", api.ErrTorn)
	d, l = stand()
	tears(t, d, 3)
	lists(t, "P5.7: nothing behind the first that has an error", l, 0)
	lists(t, "P5.7", l, 1, pair{1, letters(300)})
	appends(t, "P5.7: the log has not fallen", l, "", 0, api.ErrFull)
	is(t, "P5.6: it is given up unread", l.Trim(1), api.OK)

	// The bounds of the epochs are 0 and the head's; the record is as long as its pieces say.
	d, l = stand()
	writes(t, d, 3, pieceText(0, 0, 2, 0, "zz"))
	reads(t, "P5.7: epoch 0", l, 0, "zz", api.OK)
	writes(t, d, 3, pieceText(0, 1, 3, 0, "one"))
	reads(t, "P5.7: the head's epoch", l, 0, "one", api.OK)
	writes(t, d, 3, pieceText(0, 2, 3, 0, "two"))
	reads(t, "P5.7: above the head's epoch", l, 0, "", api.ErrLog)
	writes(t, d, 3, pieceText(0, 1, 105, 0, letters(104)))
	reads(t, "P5.7: piece 1 belongs to another record", l, 0, "", api.ErrLog)
	writes(t, d, 4, pieceText(1, 1, 105, 1, "l"))
	reads(t, "P5.7: all is read from the disk each time", l, 0, letters(104)+"l", api.OK)
	reads(t, "P5.7", l, 1, "", api.ErrLog)
}

// The epochs of a log's records rise from 0 on, and one log may hold many.
func TestManyEpochs(t *testing.T) {
	d := formatted(t)
	var want []pair
	for n := range uint64(4) {
		l := open(t, d)
		tells(t, "P5.3", l, n+1, 0, n)
		lists(t, "P5.3", l, 0, want...)
		rec := letters(int(n) + 5)
		appends(t, "P5.4", l, rec, n, api.OK)
		is(t, "P5.5", l.Flush(), api.OK)
		want = append(want, pair{n, rec})
	}
	l := open(t, d)
	lists(t, "P5.3", l, 0, want...)
	is(t, "P5.6", l.Trim(2), api.OK)
	holds(t, "5.3: the least epoch", d, 2, headText(7, 5, 2, 3, 6))
}

// The greatest place there is: its size takes a third byte, and its ring is gone round.
func TestGreatestPlace(t *testing.T) {
	d := newDisk(t, api.MaxSectors)
	is(t, "P5.2", seglog.Format(d, 0, api.MaxSectors), api.OK)
	holds(t, "5.2: the size in four bytes", d, 1, headText(1, 0, 0, 0, 65536))
	l := openAt(t, d, 0, api.MaxSectors)
	if l.Free() != 65534 {
		t.Errorf("P5.8: Free = %d", l.Free())
	}
	for n := range uint64(65534) {
		if m, e := l.Append([]byte{byte(n), byte(n >> 8)}); m != n || e != api.OK {
			t.Fatalf("P5.4: Append = %d, %d, want %d", m, e, n)
		}
	}
	appends(t, "P5.4", l, "", 0, api.ErrFull)
	is(t, "P5.6", l.Trim(65532), api.OK)
	appends(t, "P5.4", l, two, 65534, api.OK)
	holds(t, "5.1: the ring's first sector", d, 2, pieceText(65534, 1, 105, 0, two[:104]))
	is(t, "P5.5", l.Flush(), api.OK)
	l = openAt(t, d, 0, api.MaxSectors)
	lists(t, "P5.10", l, 0, pair{65532, "\xfc\xff"}, pair{65533, "\xfd\xff"}, pair{65534, two})
	if l.Free() != 65530 {
		t.Errorf("P5.13: Free = %d", l.Free())
	}
}
