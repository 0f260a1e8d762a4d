package seglog_test

import (
	"bytes"
	"encoding/binary"
	"hash/crc32"
	"math"
	"slices"
	"testing"

	"halyard/api"
	"halyard/disk"
	"halyard/seglog"
)

const most = api.MaxNumber

func is(t *testing.T, what string, got, want api.Errno) {
	t.Helper()
	if got != want {
		t.Errorf("%s: %d, want %d", what, got, want)
	}
}

func newDisk(t *testing.T, n int) *disk.Disk {
	t.Helper()
	d, e := disk.New(n)
	if d == nil || e != api.OK {
		t.Fatalf("P4.1: New(%d) = %v, %d", n, d, e)
	}
	return d
}

// formatted: a disk of eight sectors with an empty log in its sectors 1 to 6, as in the examples.
func formatted(t *testing.T) *disk.Disk {
	t.Helper()
	d := newDisk(t, 8)
	is(t, "P5.2: Format", seglog.Format(d, 1, 6), api.OK)
	return d
}

func openAt(t *testing.T, d *disk.Disk, first, size int) *seglog.Log {
	t.Helper()
	l, e := seglog.Open(d, first, size)
	if l == nil || e != api.OK {
		t.Fatalf("P5.3: Open = %v, %d", l, e)
	}
	return l
}

func open(t *testing.T, d *disk.Disk) *seglog.Log {
	t.Helper()
	return openAt(t, d, 1, 6)
}

// tells: its numbers, with a ring of four sectors.
func tells(t *testing.T, what string, l *seglog.Log, epoch, first, next uint64) {
	t.Helper()
	if l.Epoch() != epoch || l.First() != first || l.Next() != next || l.Free() != 4-int(next-first) {
		t.Errorf("%s: Epoch %d, First %d, Next %d, Free %d, want %d, %d, %d, %d",
			what, l.Epoch(), l.First(), l.Next(), l.Free(), epoch, first, next, 4-int(next-first))
	}
}

func appends(t *testing.T, what string, l *seglog.Log, rec string, want uint64, e api.Errno) {
	t.Helper()
	if n, f := l.Append([]byte(rec)); n != want || f != e {
		t.Errorf("%s: Append of %d bytes = %d, %d, want %d, %d", what, len(rec), n, f, want, e)
	}
}

func reads(t *testing.T, what string, l *seglog.Log, n uint64, want string, e api.Errno) {
	t.Helper()
	if b, f := l.Read(n); string(b) != want || f != e {
		t.Errorf("%s: Read(%d) = %.9q (%d bytes), %d, want %.9q (%d bytes), %d", what, n, b, len(b), f, want, len(want), e)
	}
}

// pair: a record and its number.
type pair struct {
	n   uint64
	rec string
}

func listed(l *seglog.Log, n uint64) (out []pair) {
	for n, rec := range l.Records(n) {
		out = append(out, pair{n, string(rec)})
	}
	return out
}

func lists(t *testing.T, what string, l *seglog.Log, n uint64, want ...pair) {
	t.Helper()
	if got := listed(l, n); !slices.Equal(got, want) {
		t.Errorf("%s: Records(%d) = %.9v, want %.9v", what, n, got, want)
	}
}

// letters: so many bytes, no two neighbouring pieces of which are alike.
func letters(n int) string {
	b := make([]byte, n)
	for i := range b {
		b[i] = byte('a' + i/7%26)
	}
	return string(b)
}

var two = letters(105)

// sealedText: the bytes, zeros behind them, and the seal.
func sealedText(b []byte) []byte {
	b = append(b, make([]byte, 124-len(b))...)
	return binary.LittleEndian.AppendUint32(b, crc32.ChecksumIEEE(b))
}

func six(b []byte, n uint64) []byte {
	return append(b, binary.LittleEndian.AppendUint64(nil, n)[:6]...)
}

// headText: as section 5.2 says.
func headText(generation, epoch, first, least uint64, size int) []byte {
	b := []byte{0x68, 0x6c, 0x79, 0x48}
	b = six(six(six(six(b, generation), epoch), first), least)
	return sealedText(binary.LittleEndian.AppendUint32(b, uint32(size)))
}

// pieceText: as section 5.3 says; data: what the piece holds.
func pieceText(number, epoch uint64, length, i int, data string) []byte {
	b := six(six([]byte{0x68, 0x6c, 0x79, 0x50}, number), epoch)
	b = binary.LittleEndian.AppendUint16(b, uint16(length))
	b = binary.LittleEndian.AppendUint16(b, uint16(i))
	return sealedText(append(b, data...))
}

// writes: a text to a sector, for good.
func writes(t *testing.T, d *disk.Disk, i int, text []byte) {
	t.Helper()
	is(t, "P4.6", d.Write(i, text), api.OK)
	is(t, "P4.7", d.Flush(), api.OK)
}

// tears: makes a sector unreadable, and changes no other.
func tears(t *testing.T, d *disk.Disk, i int) {
	t.Helper()
	is(t, "P4.7", d.Flush(), api.OK)
	is(t, "P4.6", d.Write(i, make([]byte, 128)), api.OK)
	d.Crash([]int{-1})
}

func holds(t *testing.T, what string, d *disk.Disk, i int, want []byte) {
	t.Helper()
	if b, e := d.Read(i); e != api.OK || !bytes.Equal(b, want) {
		t.Errorf("%s: sector %d is %x, %d, want %x", what, i, b, e, want)
	}
}

func TestNeed(t *testing.T) {
	if seglog.Payload != 104 {
		t.Errorf("5.4: Payload = %d", seglog.Payload)
	}
	for n := -3; n <= 8200; n++ {
		want := 0
		if n >= 0 && n <= 8192 {
			want = 1
			for 104*want < n {
				want++
			}
		}
		if got := seglog.Need(n); got != want {
			t.Errorf("5.3: Need(%d) = %d, want %d", n, got, want)
		}
	}
	for _, n := range []int{math.MinInt, math.MinInt + 1, math.MaxInt - 103, math.MaxInt} {
		if got := seglog.Need(n); got != 0 {
			t.Errorf("5.3: Need(%d) = %d", n, got)
		}
	}
}

func TestNeedOfExamples(t *testing.T) {
	for n, want := range map[int]int{0: 1, 104: 1, 105: 2, 208: 2, 209: 3, 8192: 79, 8193: 0} {
		if got := seglog.Need(n); got != want {
			t.Errorf("5.6: Need(%d) = %d, want %d", n, got, want)
		}
	}
}

func TestWrongPlaces(t *testing.T) {
	d := formatted(t)
	was := d.Image()
	wrong := [][2]int{
		{0, 2}, {0, 1}, {0, 0}, {0, -1}, {0, math.MinInt}, {1, 2},
		{-1, 4}, {math.MinInt, 6}, {math.MinInt, math.MaxInt}, {-1, 9},
		{3, 6}, {0, 9}, {8, 3}, {6, 3}, {9, 3}, {math.MaxInt, 6}, {1, math.MaxInt}, {math.MaxInt, math.MaxInt}, {math.MaxInt, 3},
	}
	try := func(what string, d *disk.Disk, first, size int, want api.Errno) {
		t.Helper()
		is(t, what+": Format", seglog.Format(d, first, size), want)
		l, e := seglog.Open(d, first, size)
		is(t, what+": Open", e, want)
		if l != nil {
			t.Errorf("%s: a log beside an error", what)
		}
	}
	for _, c := range wrong {
		try("P5.1", d, c[0], c[1], api.ErrArg)
	}
	try("P5.1: a nil disk", nil, 0, 3, api.ErrArg)
	try("P5.1: a disk that nobody made", new(disk.Disk), 0, 3, api.ErrArg)
	if !bytes.Equal(was, d.Image()) {
		t.Error("P5.1: ErrArg changed the disk")
	}
	d.Cut(0)
	d.Flush()
	for _, c := range wrong {
		try("P5.1: ErrArg comes first", d, c[0], c[1], api.ErrArg)
	}
	try("P5.1: without power", d, 1, 6, api.ErrPower)
	try("P5.1: without power and log", d, 2, 6, api.ErrPower)
	d.Crash(nil)
	tells(t, "P5.1: ErrPower changed the disk", open(t, d), 1, 0, 0)
}

// The least place, and one that is the whole disk.
func TestEdgesOfPlaces(t *testing.T) {
	for _, c := range [][2]int{{0, 3}, {5, 3}, {0, 8}, {2, 6}} {
		d := newDisk(t, 8)
		is(t, "P5.2: Format", seglog.Format(d, c[0], c[1]), api.OK)
		l := openAt(t, d, c[0], c[1])
		if l.Free() != c[1]-2 {
			t.Errorf("P5.8: Free = %d of %d sectors", l.Free(), c[1])
		}
		for n := range uint64(20) {
			is(t, "P5.6", l.Trim(n), api.OK)
			appends(t, "P5.4", l, letters(int(n)), n, api.OK)
			reads(t, "P5.7", l, n, letters(int(n)), api.OK)
		}
		for i := range 8 {
			if b, _ := d.Read(i); (i < c[0] || i >= c[0]+c[1]) && !bytes.Equal(b, make([]byte, 128)) {
				t.Errorf("5.1: sector %d is not in the place %v", i, c)
			}
		}
	}
}

func TestExamples1To4(t *testing.T) {
	d := formatted(t)
	l := open(t, d)
	tells(t, "example 1", l, 1, 0, 0)
	_, e := seglog.Open(d, 1, 5)
	is(t, "example 1: another size", e, api.ErrLog)
	_, e = seglog.Open(d, 3, 6)
	is(t, "example 1: beyond the disk", e, api.ErrArg)

	appends(t, "example 2", l, "a", 0, api.OK)
	appends(t, "example 2", l, two, 1, api.OK)
	tells(t, "example 2", l, 1, 0, 3)
	appends(t, "example 2", l, two, 0, api.ErrFull)
	tells(t, "example 2", l, 1, 0, 3)
	appends(t, "example 2", l, "", 3, api.OK)
	tells(t, "example 2", l, 1, 0, 4)
	appends(t, "example 2: full", l, "", 0, api.ErrFull)
	reads(t, "example 2", l, 0, "a", api.OK)
	reads(t, "example 2", l, 1, two, api.OK)
	reads(t, "example 2", l, 2, "", api.ErrNone)
	reads(t, "example 2", l, 3, "", api.OK)
	reads(t, "example 2: next is no start", l, 4, "", api.ErrNone)
	reads(t, "example 2", l, math.MaxUint64, "", api.ErrNone)

	is(t, "example 3", l.Trim(2), api.ErrNone)
	is(t, "example 3", l.Trim(1), api.OK)
	tells(t, "example 3", l, 1, 1, 4)
	reads(t, "example 3", l, 0, "", api.ErrNone)
	is(t, "example 3", l.Trim(0), api.OK)
	tells(t, "example 3", l, 1, 1, 4)
	appends(t, "example 3", l, "b", 4, api.OK)
	holds(t, "example 3: in the sector of number 0", d, 3, pieceText(4, 1, 1, 0, "b"))
	lists(t, "example 3", l, 2, pair{3, ""}, pair{4, "b"})
	lists(t, "example 3", l, 0, pair{1, two}, pair{3, ""}, pair{4, "b"})
	lists(t, "example 3", l, 5)
	lists(t, "example 3", l, math.MaxUint64)

	d.Crash(nil)
	l = open(t, d)
	tells(t, "example 4", l, 2, 1, 4)
	lists(t, "example 4", l, 0, pair{1, two}, pair{3, ""})
}

func TestExample5(t *testing.T) {
	d := formatted(t)
	l := open(t, d)
	appends(t, "example 5", l, letters(4*104), 0, api.OK)
	is(t, "example 5", l.Flush(), api.OK)
	l = open(t, d)
	is(t, "example 5", l.Trim(4), api.OK)
	tells(t, "example 5", l, 2, 4, 4)
	appends(t, "example 5", l, two, 4, api.OK)
	if sectors, versions := d.Dirty(); !slices.Equal(sectors, []int{3, 4}) || !slices.Equal(versions, []int{1, 1}) {
		t.Errorf("example 5: dirty are %v, %v", sectors, versions)
	}
	d.Crash([]int{0, 1})
	l = open(t, d)
	tells(t, "example 5: number 4 is lost", l, 3, 4, 4)
	appends(t, "example 5", l, "c", 4, api.OK)
	d.Crash([]int{1})
	l = open(t, d)
	tells(t, "example 5: piece 5 is of another epoch", l, 4, 4, 5)
	lists(t, "example 5", l, 0, pair{4, "c"})
}

func TestExample6(t *testing.T) {
	d := formatted(t)
	l := open(t, d)
	appends(t, "example 6", l, "a", 0, api.OK)
	is(t, "example 6", l.Flush(), api.OK)
	d.Cut(1)
	appends(t, "example 6", l, two, 0, api.ErrPower)
	appends(t, "example 6", l, "x", 0, api.ErrPower)
	tells(t, "P5.8: they go on behind a fall", l, 1, 0, 1)
	d.Crash([]int{1})
	appends(t, "example 6: behind a crash", l, "x", 0, api.ErrPower)
	l = open(t, d)
	tells(t, "example 6", l, 2, 0, 1)
	lists(t, "example 6", l, 0, pair{0, "a"})
}

func TestExample7(t *testing.T) {
	d := formatted(t)
	l := open(t, d)
	appends(t, "example 7", l, "a", 0, api.OK)
	appends(t, "example 7", l, "b", 1, api.OK)
	d.Crash([]int{0, 1})
	l = open(t, d)
	tells(t, "example 7", l, 2, 0, 0)
	holds(t, "example 7: number 1 is on the disk", d, 4, pieceText(1, 1, 1, 0, "b"))
	appends(t, "example 7", l, "c", 0, api.OK)
	is(t, "example 7", l.Trim(1), api.OK)
	holds(t, "example 7: the least epoch", d, 1, headText(4, 2, 1, 2, 6))
	d.Crash(nil)
	l = open(t, d)
	tells(t, "example 7", l, 3, 1, 1)
}

func TestExample8(t *testing.T) {
	for choice, want := range []api.Errno{api.OK, api.ErrLog} {
		d := formatted(t)
		l := open(t, d)
		appends(t, "example 8", l, "a", 0, api.OK)
		is(t, "example 8", l.Flush(), api.OK)
		d.Cut(3)
		is(t, "example 8: Format", seglog.Format(d, 1, 6), api.ErrPower)
		d.Crash([]int{choice})
		l, e := seglog.Open(d, 1, 6)
		is(t, "example 8: Open", e, want)
		if want == api.OK {
			lists(t, "example 8: the old log", l, 0, pair{0, "a"})
		}
	}
}

func TestNoLog(t *testing.T) {
	d := newDisk(t, 8)
	was := d.Image()
	l, e := seglog.Open(d, 1, 6)
	if l != nil || e != api.ErrLog || !bytes.Equal(was, d.Image()) {
		t.Errorf("P5.3: Open of zeros = %v, %d", l, e)
	}
	d = formatted(t)
	for _, c := range [][2]int{{1, 3}, {1, 5}, {1, 7}, {0, 6}, {2, 6}, {0, 8}} {
		if l, e := seglog.Open(d, c[0], c[1]); l != nil || e != api.ErrLog {
			t.Errorf("P5.3: Open%v = %v, %d", c, l, e)
		}
	}
}

func TestNobody(t *testing.T) {
	var none *seglog.Log
	for _, l := range []*seglog.Log{none, {}, new(seglog.Log)} {
		appends(t, "P5.9", l, "a", 0, api.ErrArg)
		appends(t, "P5.9", l, letters(8193), 0, api.ErrArg)
		is(t, "P5.9: Flush", l.Flush(), api.ErrArg)
		for _, n := range []uint64{0, 1, most, math.MaxUint64} {
			is(t, "P5.9: Trim", l.Trim(n), api.ErrArg)
			reads(t, "P5.9", l, n, "", api.ErrArg)
			if l.Records(n) == nil {
				t.Error("P5.7: an iterator is never nil")
			}
			lists(t, "P5.9", l, n)
		}
		if l.First() != 0 || l.Next() != 0 || l.Epoch() != 0 || l.Free() != 0 {
			t.Error("P5.9: numbers of a log that is none")
		}
	}
}

func TestSizesOfRecords(t *testing.T) {
	d := newDisk(t, 90)
	is(t, "P5.2", seglog.Format(d, 4, 82), api.OK)
	l := openAt(t, d, 4, 82)
	next := uint64(0)
	for _, size := range []int{0, 1, 103, 104, 105, 207, 208, 209, 8111, 8112, 8113, 8191, 8192} {
		rec := letters(size)
		appends(t, "P5.4", l, rec, next, api.OK)
		reads(t, "P5.7", l, next, rec, api.OK)
		is(t, "P5.6", l.Trim(next), api.OK)
		l = openAt(t, d, 4, 82)
		lists(t, "P5.3", l, 0, pair{next, rec})
		next += uint64(seglog.Need(size))
		if l.Next() != next || l.Free() != 80-seglog.Need(size) {
			t.Errorf("P5.8: behind %d bytes: Next %d, Free %d", size, l.Next(), l.Free())
		}
		is(t, "P5.6", l.Trim(next), api.OK)
	}
	for _, size := range []int{8193, 8194, 1 << 16, 1<<16 + 1, 1 << 20} {
		appends(t, "P5.4: above MaxRecord", l, letters(size), 0, api.ErrArg)
	}
	// A record that could never have room is one without room all the same.
	d = formatted(t)
	l = open(t, d)
	appends(t, "P5.4", l, letters(8193), 0, api.ErrArg)
	appends(t, "P5.4", l, letters(8192), 0, api.ErrFull)
	appends(t, "P5.4", l, letters(417), 0, api.ErrFull)
	appends(t, "P5.4", l, letters(416), 0, api.OK)
	reads(t, "P5.7", l, 0, letters(416), api.OK)
}

// bringDown: the disk's power goes, and nobody but the disk knows.
func bringDown(t *testing.T, d *disk.Disk) {
	t.Helper()
	d.Cut(0)
	is(t, "P4.5", d.Flush(), api.ErrPower)
}

// standing: a log with the records "a" and "b".
func standing(t *testing.T) (*disk.Disk, *seglog.Log) {
	t.Helper()
	d := formatted(t)
	l := open(t, d)
	appends(t, "P5.4", l, "a", 0, api.OK)
	appends(t, "P5.4", l, "b", 1, api.OK)
	is(t, "P5.5", l.Flush(), api.OK)
	return d, l
}

// Each of these looks for the power: a log that found it gone stays fallen.
func TestWhatLooks(t *testing.T) {
	looks := map[string]func(l *seglog.Log){
		"Append":            func(l *seglog.Log) { appends(t, "P5.4", l, "c", 0, api.ErrPower) },
		"Append, no room":   func(l *seglog.Log) { appends(t, "P5.4", l, letters(8192), 0, api.ErrPower) },
		"Flush":             func(l *seglog.Log) { is(t, "P5.5", l.Flush(), api.ErrPower) },
		"Trim":              func(l *seglog.Log) { is(t, "P5.6", l.Trim(1), api.ErrPower) },
		"Trim of less":      func(l *seglog.Log) { is(t, "P5.6", l.Trim(0), api.ErrPower) },
		"Trim of no start":  func(l *seglog.Log) { is(t, "P5.6", l.Trim(9), api.ErrPower) },
		"Read":              func(l *seglog.Log) { reads(t, "P5.7", l, 0, "", api.ErrPower) },
		"Read of no start":  func(l *seglog.Log) { reads(t, "P5.7", l, 9, "", api.ErrPower) },
		"Records":           func(l *seglog.Log) { lists(t, "P5.7", l, 0) },
		"Records of nobody": func(l *seglog.Log) { lists(t, "P5.7", l, 9) },
	}
	for what, look := range looks {
		d, l := standing(t)
		bringDown(t, d)
		look(l)
		d.Crash(nil)
		was := d.Image()
		for again, look := range looks {
			look(l)
			if t.Failed() {
				t.Fatalf("5.4: %s, and then %s", what, again)
			}
		}
		tells(t, "P5.8: behind a fall", l, 1, 0, 2)
		if sectors, _ := d.Dirty(); len(sectors) > 0 || !bytes.Equal(was, d.Image()) {
			t.Errorf("5.4: a log that has fallen writes (%s)", what)
		}
	}
}

// Nothing else looks: a log that did not find the power gone has not fallen.
func TestWhatDoesNotLook(t *testing.T) {
	d, l := standing(t)
	bringDown(t, d)
	appends(t, "P5.4", l, letters(8193), 0, api.ErrArg)
	l.Records(0)
	tells(t, "P5.8: without power", l, 1, 0, 2)
	d.Crash(nil)
	lists(t, "5.4", l, 0, pair{0, "a"}, pair{1, "b"})
	appends(t, "5.4", l, "c", 2, api.OK)
	is(t, "5.4", l.Flush(), api.OK)
	is(t, "5.4", l.Trim(1), api.OK)
	reads(t, "5.4", l, 2, "c", api.OK)
}

// What the disk answers makes a log fall, also if the power is there again when it is asked next.
func TestFallsByTheFuse(t *testing.T) {
	falls := map[string]func(l *seglog.Log){
		"Append":         func(l *seglog.Log) { appends(t, "P5.4", l, "c", 0, api.ErrPower) },
		"Flush":          func(l *seglog.Log) { is(t, "P5.5", l.Flush(), api.ErrPower) },
		"Trim":           func(l *seglog.Log) { is(t, "P5.6", l.Trim(1), api.ErrPower) },
		"Trim up to all": func(l *seglog.Log) { is(t, "P5.6", l.Trim(2), api.ErrPower) },
	}
	for what, fall := range falls {
		d, l := standing(t)
		d.Cut(0)
		fall(l)
		d.Crash(nil)
		tells(t, "P5.8: "+what, l, 1, 0, 2)
		reads(t, "5.4: "+what, l, 0, "", api.ErrPower)
		is(t, "5.4: "+what, l.Flush(), api.ErrPower)
		lists(t, "5.4: "+what, l, 0)
	}
	// Reading is no operation: a fuse does not burn by it.
	d, l := standing(t)
	d.Cut(0)
	reads(t, "P5.7", l, 0, "a", api.OK)
	lists(t, "P5.7", l, 1, pair{1, "b"})
	is(t, "P5.6: Trim of less", l.Trim(0), api.OK)
	is(t, "P5.6: Trim of no start", l.Trim(3), api.ErrNone)
	appends(t, "P5.4: no room", l, letters(300), 0, api.ErrFull)
	if d.Down() {
		t.Error("P5.7: what reads or refuses is no operation of the disk")
	}
	is(t, "P5.5", l.Flush(), api.ErrPower)
}

func TestTrims(t *testing.T) {
	d := formatted(t)
	l := open(t, d)
	is(t, "P5.6: of an empty log", l.Trim(0), api.OK)
	is(t, "P5.6: of an empty log", l.Trim(1), api.ErrNone)
	is(t, "P5.6", l.Trim(math.MaxUint64), api.ErrNone)
	is(t, "P5.6", l.Trim(most+1), api.ErrNone)
	appends(t, "P5.4", l, "a", 0, api.OK)
	appends(t, "P5.4", l, two, 1, api.OK)
	appends(t, "P5.4", l, "c", 3, api.OK)
	is(t, "P5.6", l.Trim(3), api.OK)
	tells(t, "P5.6", l, 1, 3, 4)
	lists(t, "P5.6", l, 0, pair{3, "c"})
	for n := range uint64(4) {
		is(t, "P5.6: of less", l.Trim(n), api.OK)
	}
	is(t, "P5.6", l.Trim(5), api.ErrNone)
	is(t, "P5.6: up to next", l.Trim(4), api.OK)
	tells(t, "P5.6", l, 1, 4, 4)
	lists(t, "P5.6", l, 0)
	reads(t, "P5.6: forgotten", l, 3, "", api.ErrNone)
	appends(t, "P5.4: all room is there", l, letters(416), 4, api.OK)
	d.Crash([]int{1, 1, 1, 1})
	tells(t, "P5.3", open(t, d), 2, 4, 8)
}

// A Trim makes durable all that was appended; without one or a Flush nothing is.
func TestTrimFlushes(t *testing.T) {
	d := formatted(t)
	l := open(t, d)
	appends(t, "P5.4", l, "a", 0, api.OK)
	appends(t, "P5.4", l, "b", 1, api.OK)
	is(t, "P5.6", l.Trim(1), api.OK)
	appends(t, "P5.4", l, "c", 2, api.OK)
	is(t, "P5.6: of less does nothing", l.Trim(1), api.OK)
	d.Crash(nil)
	l = open(t, d)
	tells(t, "P5.6", l, 2, 1, 2)
	lists(t, "P5.6", l, 0, pair{1, "b"})
}
