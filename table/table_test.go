package table_test

import (
	"encoding/binary"
	"hash/crc32"
	"math"
	"slices"
	"strings"
	"testing"

	"halyard/api"
	"halyard/disk"
	"halyard/seglog"
	"halyard/table"
)

func is(t *testing.T, what string, got, want api.Errno) {
	t.Helper()
	if got != want {
		t.Errorf("%s: %d, want %d", what, got, want)
	}
}

func newDisk(t *testing.T, n int) *disk.Disk {
	t.Helper()
	d, e := disk.New(n)
	if d == nil || e != api.OK {
		t.Fatalf("P4.1: New(%d) = %v, %d", n, d, e)
	}
	return d
}

// formatted: a disk of that many sectors, all of them an empty table.
func formatted(t *testing.T, size int) *disk.Disk {
	t.Helper()
	d := newDisk(t, size)
	if e := table.Format(d, 0, size); e != api.OK {
		t.Fatalf("P6.1: Format(d, 0, %d): %d", size, e)
	}
	return d
}

// open: the table that all of a disk is.
func open(t *testing.T, d *disk.Disk) *table.Table {
	t.Helper()
	x, e := table.Open(d, 0, d.Sectors())
	if x == nil || e != api.OK {
		t.Fatalf("P6.2: Open = %v, %d", x, e)
	}
	return x
}

func openLog(t *testing.T, d *disk.Disk) *seglog.Log {
	t.Helper()
	l, e := seglog.Open(d, 0, d.Sectors())
	if l == nil || e != api.OK {
		t.Fatalf("P5.3: Open = %v, %d", l, e)
	}
	return l
}

func put(k, v string) table.Change { return table.Change{Key: []byte(k), Value: []byte(v)} }

func gone(k string) table.Change { return table.Change{Key: []byte(k), Gone: true} }

func walk(x *table.Table, from, below string) (out []string) {
	for k, v := range x.Walk([]byte(from), []byte(below)) {
		out = append(out, string(k)+"="+string(v))
	}
	return out
}

// has: just these pairs, by Walk, Get and Len.
func has(t *testing.T, what string, x *table.Table, want ...string) {
	t.Helper()
	if got := walk(x, "", ""); !slices.Equal(got, want) {
		t.Errorf("%s: Walk = %.20q, want %.20q", what, got, want)
	}
	for _, p := range want {
		key, value, _ := strings.Cut(p, "=")
		if v, ok := x.Get([]byte(key)); string(v) != value || !ok {
			t.Errorf("%s: Get(%.9q) = %.9q, %v, want %.9q", what, key, v, ok, value)
		}
	}
	if x.Len() != len(want) {
		t.Errorf("%s: Len %d, want %d", what, x.Len(), len(want))
	}
}

// tells: its numbers; room is the capacity less Live.
func tells(t *testing.T, what string, x *table.Table, length, live, room, unflushed, epoch int) {
	t.Helper()
	got := []int{x.Len(), x.Live(), x.Room(), x.Unflushed(), int(x.Epoch())}
	if want := []int{length, live, room, unflushed, epoch}; !slices.Equal(got, want) {
		t.Errorf("%s: Len, Live, Room, Unflushed, Epoch are %v, want %v", what, got, want)
	}
}

// letters: so many bytes, no two neighbouring pieces of which are alike.
func letters(n int) string {
	b := make([]byte, n)
	for i := range b {
		b[i] = byte('a' + i/7%26)
	}
	return string(b)
}

func bringDown(t *testing.T, d *disk.Disk) {
	t.Helper()
	d.Cut(0)
	is(t, "P4.5", d.Flush(), api.ErrPower)
}

// headText: as section 5.2 says.
func headText(generation, epoch, first, least uint64, size int) []byte {
	b := []byte("hlyH")
	for _, n := range []uint64{generation, epoch, first, least} {
		b = append(b, binary.LittleEndian.AppendUint64(nil, n)[:6]...)
	}
	b = binary.LittleEndian.AppendUint32(b, uint32(size))
	b = append(b, make([]byte, 124-len(b))...)
	return binary.LittleEndian.AppendUint32(b, crc32.ChecksumIEEE(b))
}

func TestExampleOne(t *testing.T) {
	d := formatted(t, 100)
	tells(t, "P6.2: an empty table", open(t, d), 0, 0, 933, 0, 2)
	is(t, "P6.1: too small", table.Format(d, 0, 82), api.ErrArg)
	is(t, "P6.1: beyond the end", table.Format(d, 18, 83), api.ErrArg)
	x, e := table.Open(d, 0, 90)
	if x != nil || e != api.ErrLog {
		t.Errorf("P6.2: Open with another size = %v, %d", x, e)
	}
	tells(t, "P6.1: what was refused has done nothing", open(t, d), 0, 0, 933, 0, 3)
}

func TestExampleTwo(t *testing.T) {
	d := formatted(t, 100)
	x := open(t, d)
	is(t, "P6.3", x.Commit(put("a", "x")), api.OK)
	has(t, "P6.3", x, "a=x")
	tells(t, "P6.3", x, 1, 4, 929, 1, 2)
	var second []byte
	for _, rec := range openLog(t, d).Records(1) {
		second = rec
	}
	if string(second) != "\x01\x01\x01\x01a\x01x" {
		t.Errorf("6.1: the record of a batch: %x", second)
	}
	d = formatted(t, 100)
	x = open(t, d)
	is(t, "P6.3", x.Commit(put("a", "x")), api.OK)
	d.Crash(nil)
	x = open(t, d)
	has(t, "P6.8: it was not flushed", x)
	tells(t, "P6.8: it was not flushed", x, 0, 0, 933, 0, 3)
}

func TestExampleThree(t *testing.T) {
	d := formatted(t, 100)
	x := open(t, d)
	is(t, "P6.3", x.Commit(put("a", "x"), put("b", "y"), gone("a"), put("c", "")), api.OK)
	has(t, "P6.3: in their order", x, "b=y", "c=")
	is(t, "P6.4", x.Flush(), api.OK)
	tells(t, "P6.4", x, 2, 7, 926, 0, 2)
	is(t, "P6.3", x.Commit(gone("b")), api.OK)
	has(t, "P6.3", x, "c=")
	tells(t, "P6.3", x, 1, 3, 930, 1, 2)
	d.Crash(nil)
	has(t, "P6.8: what was flushed", open(t, d), "b=y", "c=")
}

func TestExampleFour(t *testing.T) {
	x := open(t, formatted(t, 100))
	is(t, "P6.3: no key", x.Commit(put("", "x")), api.ErrArg)
	is(t, "P6.3: a great value", x.Commit(put("a", letters(1025))), api.ErrArg)
	is(t, "P6.3: that is gone", x.Commit(table.Change{Key: []byte("a"), Value: make([]byte, 1025), Gone: true}), api.OK)
	is(t, "P6.3: 81 changes", x.Commit(slices.Repeat([]table.Change{put("a", "x")}, 81)...), api.ErrArg)
	is(t, "P6.3: a great record", x.Commit(slices.Repeat([]table.Change{put("a", letters(1000))}, 9)...), api.ErrSize)
	is(t, "P6.3: above the capacity", x.Commit(put("a", letters(1000))), api.ErrFull)
	is(t, "P6.3: an empty batch", x.Commit(), api.OK)
	has(t, "P6.3: what was refused has done nothing", x)
	tells(t, "P6.3: what was refused has done nothing", x, 0, 0, 933, 1, 2)
}

// The log of example 5, told by its numbers: the checkpoint comes ahead of the tenth batch, and of every tenth part of what follows.
func TestExampleFive(t *testing.T) {
	d := formatted(t, 100)
	x := open(t, d)
	logOf := func() *seglog.Log {
		t.Helper()
		x, _ := disk.Load(d.Image())
		return openLog(t, x)
	}
	for i := range 10 {
		is(t, "P6.3", x.Commit(put("a", strings.Repeat(string(rune('a'+i)), 900))), api.OK)
		if i < 9 {
			is(t, "P6.4", x.Flush(), api.OK)
		}
		if i == 8 {
			if l := logOf(); l.First() != 0 || l.Next() != 82 || l.Free() != 16 {
				t.Errorf("P6.3: behind the ninth: First %d, Next %d, Free %d", l.First(), l.Next(), l.Free())
			}
		}
	}
	is(t, "P6.4", x.Flush(), api.OK)
	if l := logOf(); l.First() != 82 || l.Next() != 100 {
		t.Errorf("P6.3: behind the tenth: First %d, Next %d", l.First(), l.Next())
	}
	has(t, "P6.3", x, "a="+strings.Repeat("j", 900))
	for i := range 500 {
		v := letters(900 - i%2)
		is(t, "P6.10: for ever", x.Commit(put("a", v)), api.OK)
		has(t, "P6.10: for ever", x, "a="+v)
	}
}

func TestExampleSix(t *testing.T) {
	x := open(t, formatted(t, 100))
	is(t, "P6.3", x.Commit(put("ba", "3"), put("d", "5"), put("a", "1"), put("c", "4"), put("b", "2")), api.OK)
	for _, c := range []struct{ from, below, want string }{
		{"b", "d", "b=2 ba=3 c=4"}, {"", "", "a=1 b=2 ba=3 c=4 d=5"}, {"x", "a", ""},
		{"b", "b", ""}, {"b", "ba", "b=2"}, {"ba", "bb", "ba=3"}, {"b\x00", "", "ba=3 c=4 d=5"}, {"", "a", ""}, {"", "a\x00", "a=1"},
		{"d", "", "d=5"}, {"d\x00", "", ""}, {"", "z", "a=1 b=2 ba=3 c=4 d=5"}, {"d", "c", ""},
		{strings.Repeat("b", 100), strings.Repeat("d", 100), "c=4 d=5"},
	} {
		if got := strings.Join(walk(x, c.from, c.below), " "); got != c.want {
			t.Errorf("P6.5: Walk(%q, %q) = %q, want %q", c.from, c.below, got, c.want)
		}
	}
	for k, v := range x.Walk(nil, nil) {
		if string(k) != "a" || string(v) != "1" {
			t.Errorf("P6.5: Walk(nil, nil) begins with %q, %q", k, v)
		}
		break
	}
	for _, key := range []string{"", "aa", "B", "b\x00", letters(65)} {
		if v, ok := x.Get([]byte(key)); len(v) != 0 || ok {
			t.Errorf("P6.5: Get(%.9q) = %q, %v", key, v, ok)
		}
	}
	if v, ok := x.Get(nil); len(v) != 0 || ok {
		t.Errorf("P6.5: Get(nil) = %q, %v", v, ok)
	}
}

// Keys are ordered as strings of bytes: not as runes, not as signed ones, not by their lengths.
func TestOrderOfKeys(t *testing.T) {
	x := open(t, formatted(t, 200))
	keys := []string{"\x00", "\x00\x00", "\x01", "A", "a", "aB", "a\x7f", "a\x80", "b", "\x7f\xff", "\x80", "\xc3\xa9", "\xff", "\xff\x00", strings.Repeat("\xff", 63), strings.Repeat("\xff", 64)}
	for i := range keys {
		k := keys[i*7%len(keys)]
		is(t, "P6.3", x.Commit(put(k, "v")), api.OK)
	}
	var want []string
	for _, k := range keys {
		want = append(want, k+"=v")
	}
	has(t, "6.1: the order of keys", x, want...)
}

func TestWhereATableMayLie(t *testing.T) {
	d := newDisk(t, 200)
	for _, c := range []struct{ first, size int }{
		{0, 82}, {0, 3}, {0, 2}, {0, 0}, {0, -1}, {-1, 100}, {118, 83}, {0, 201}, {200, 83}, {1, 200}, {201, 83},
		{math.MaxInt, 83}, {math.MinInt, 83}, {83, math.MaxInt}, {0, math.MinInt}, {math.MaxInt, math.MaxInt},
	} {
		is(t, "P6.1: a wrong place", table.Format(d, c.first, c.size), api.ErrArg)
		x, e := table.Open(d, c.first, c.size)
		if x != nil || e != api.ErrArg {
			t.Errorf("P6.2: Open(d, %d, %d) = %v, %d", c.first, c.size, x, e)
		}
	}
	if dirty, _ := d.Dirty(); len(dirty) > 0 {
		t.Error("P6.1: a wrong place was written to")
	}
	for _, none := range []*disk.Disk{nil, {}} {
		is(t, "P6.1: no disk", table.Format(none, 0, 83), api.ErrArg)
		x, e := table.Open(none, 0, 83)
		if x != nil || e != api.ErrArg {
			t.Errorf("P6.2: no disk: %v, %d", x, e)
		}
	}
	for _, c := range []struct{ first, size int }{{0, 83}, {117, 83}, {0, 200}, {34, 100}} {
		is(t, "P6.1", table.Format(d, c.first, c.size), api.OK)
		x, e := table.Open(d, c.first, c.size)
		is(t, "P6.2", e, api.OK)
		has(t, "P6.2", x)
	}
	// ErrArg is ahead of ErrPower, ErrPower ahead of ErrLog.
	bringDown(t, d)
	is(t, "P6.1: ErrArg first", table.Format(d, 0, 82), api.ErrArg)
	is(t, "P6.1: no power", table.Format(d, 0, 83), api.ErrPower)
	_, e := table.Open(d, 0, 82)
	is(t, "P6.2: ErrArg first", e, api.ErrArg)
	_, e = table.Open(d, 0, 83)
	is(t, "P6.2: no power", e, api.ErrPower)
}

// Two tables on one disk, side by side.
func TestNeighbours(t *testing.T) {
	d := newDisk(t, 170)
	is(t, "P6.1", table.Format(d, 1, 84), api.OK)
	is(t, "P6.1", table.Format(d, 85, 84), api.OK)
	a, e := table.Open(d, 1, 84)
	is(t, "P6.2", e, api.OK)
	b, e := table.Open(d, 85, 84)
	is(t, "P6.2", e, api.OK)
	for i := range 300 {
		is(t, "P6.3", a.Commit(put("k", letters(i%90))), api.OK)
		is(t, "P6.3", b.Commit(put("k", letters(89-i%90))), api.OK)
	}
	is(t, "P6.4", a.Flush(), api.OK)
	is(t, "P6.4: the disk's flush is for all of it, what is unflushed is each table's own", b.Flush(), api.OK)
	d.Crash(nil)
	a, _ = table.Open(d, 1, 84)
	b, _ = table.Open(d, 85, 84)
	has(t, "P6.8", a, "k="+letters(29))
	has(t, "P6.8", b, "k="+letters(60))
}

// The capacity, told by Room of an empty table, against the chapter's sentence: the greatest L for which 2 C(L) + 79 is at most R.
func TestCapacity(t *testing.T) {
	for _, size := range []int{83, 84, 85, 86, 99, 100, 101, 236, 237, 238, 239, 240, 241, 242, 243, 244, 400, 500, 1000, 20147, 20148, 20149, 20150, 20151, 65535, 65536} {
		l := open(t, formatted(t, size)).Room()
		if 2*plainCost(l)+79 > size-2 || 2*plainCost(l+1)+79 <= size-2 {
			t.Errorf("P6.6: with %d sectors the capacity is %d: C %d, and one byte more %d", size, l, plainCost(l), plainCost(l+1))
		}
	}
	for size, want := range map[int]int{83: 101, 84: 101, 85: 205, 86: 205, 100: 933, 237: 8109, 238: 8109, 239: 8112, 240: 8112, 241: 8112 + 101, 242: 8112 + 101} {
		if l := open(t, formatted(t, size)).Room(); l != want {
			t.Errorf("P6.6: with %d sectors the capacity is %d, want %d", size, l, want)
		}
	}
}

func TestGoodChanges(t *testing.T) {
	x := open(t, formatted(t, 400))
	edge := letters(64)
	for what, c := range map[string]table.Change{
		"a long key":                  put(letters(65), "x"),
		"a key of many bytes":         put(letters(100000), "x"),
		"no key":                      put("", "x"),
		"nothing":                     {},
		"no key, gone":                gone(""),
		"a long key, gone":            gone(letters(65)),
		"a long value":                put("k", letters(1025)),
		"a value of many bytes":       put("k", letters(100000)),
		"a long key and a long value": put(letters(65), letters(1025)),
	} {
		is(t, "P6.3: "+what, x.Commit(c), api.ErrArg)
		is(t, "P6.3: behind a good one: "+what, x.Commit(put("a", "x"), c), api.ErrArg)
		is(t, "P6.3: ahead of a good one: "+what, x.Commit(c, put("a", "x")), api.ErrArg)
	}
	tells(t, "P6.3: what was refused has done nothing", x, 0, 0, plainCapacity(400), 0, 2)
	is(t, "P6.3: the greatest key and value", x.Commit(put(edge, letters(1024))), api.OK)
	is(t, "P6.3: the least key, no value", x.Commit(table.Change{Key: []byte{0}}), api.OK)
	has(t, "P6.3", x, "\x00=", edge+"="+letters(1024))
	tells(t, "P6.6", x, 2, 3+65+1026, plainCapacity(400)-1094, 2, 2)
	is(t, "P6.3: a value that is not looked at", x.Commit(table.Change{Key: []byte(edge), Value: make([]byte, 100000), Gone: true}), api.OK)
	is(t, "P6.3: a key that is not there", x.Commit(gone("nobody")), api.OK)
	has(t, "P6.3", x, "\x00=")
	tells(t, "P6.3", x, 1, 3, plainCapacity(400)-3, 4, 2)
}

// Live counts the bytes of lists: a length from 128 on has two.
func TestLive(t *testing.T) {
	x := open(t, formatted(t, 200))
	for size, want := range map[int]int{0: 3, 1: 4, 127: 130, 128: 132, 1000: 1004, 1024: 1028} {
		is(t, "P6.3", x.Commit(put("k", letters(size))), api.OK)
		if x.Live() != want || x.Room() != plainCapacity(200)-want {
			t.Errorf("P6.6: with a value of %d bytes Live is %d, Room %d, want %d", size, x.Live(), x.Room(), want)
		}
	}
	is(t, "P6.3", x.Commit(gone("k"), put("l", "1"), put("l", "22"), gone("m"), put("n", ""), gone("n"), put("n", "4")), api.OK)
	tells(t, "P6.6: a key that comes again in a batch", x, 2, 5+4, plainCapacity(200)-9, 7, 2)
}

func TestGreatBatches(t *testing.T) {
	x := open(t, formatted(t, 400))
	var many []table.Change
	for i := range 80 {
		many = append(many, put(string(rune('0'+i)), ""))
	}
	is(t, "P6.3: 80 changes", x.Commit(many...), api.OK)
	tells(t, "P6.3: 80 changes", x, 80, 240, plainCapacity(400)-240, 1, 2)
	is(t, "P6.3: 81 changes", x.Commit(append(many, gone("a"))...), api.ErrArg)
	is(t, "P6.3: 100000 changes", x.Commit(make([]table.Change, 100000)...), api.ErrArg)
	for i := range many {
		many[i] = gone(string(rune('0' + i)))
	}
	is(t, "P6.3: 80 that are gone", x.Commit(many...), api.OK)
	has(t, "P6.3", x)

	// The record: 2 bytes, and for each change 1 + 2 + 2 + those of the value: 2 + 7 times 1024 + 5 + those of the last one.
	fill := func(last int) []table.Change {
		batch := slices.Repeat([]table.Change{put("k", letters(1019))}, 7)
		return append(batch, put("k", letters(last)))
	}
	is(t, "P6.3: a record of 8193 bytes", x.Commit(fill(1018)...), api.ErrSize)
	is(t, "P6.3: a record of 8192 bytes", x.Commit(fill(1017)...), api.OK)
	has(t, "P6.3", x, "k="+letters(1017))
	// ErrSize is ahead of ErrFull.
	small := open(t, formatted(t, 83))
	is(t, "P6.3: ErrSize first", small.Commit(fill(1018)...), api.ErrSize)
	is(t, "P6.3: ErrFull", small.Commit(fill(1017)...), api.ErrFull)
	// What counts is how much there is behind the batch, not within it.
	is(t, "P6.3: much in between", small.Commit(append(fill(800), gone("k"), put("l", letters(97)))...), api.OK)
	has(t, "P6.3", small, "l="+letters(97))
}

// ErrFull just where Live behind the batch would be above the capacity.
func TestFull(t *testing.T) {
	for _, size := range []int{83, 85, 100, 239} {
		capacity := plainCapacity(size)
		x := open(t, formatted(t, size))
		left := capacity
		for i := 0; left > 1027; i++ {
			is(t, "P6.3", x.Commit(put(string(rune('a'+i)), letters(1000))), api.OK)
			left -= 1004
		}
		v := left - 3 // the list of the key "z" has two bytes, the value's length one
		if v >= 128 {
			v-- // or two
		}
		is(t, "P6.3: above the capacity", x.Commit(put("z", letters(v+1))), api.ErrFull)
		is(t, "P6.3: up to the capacity", x.Commit(put("z", letters(v))), api.OK)
		tells(t, "P6.3: up to the capacity", x, x.Len(), capacity, 0, x.Unflushed(), 2)
		is(t, "P6.3: one more", x.Commit(put("y", "")), api.ErrFull)
		is(t, "P6.3: one byte more", x.Commit(put("z", letters(v+1))), api.ErrFull)
		for range 100 { // a batch that makes the table no greater is never refused
			is(t, "P6.10: as great as it was", x.Commit(put("z", letters(v))), api.OK)
			is(t, "P6.10: one for the other", x.Commit(put("y", letters(v)), gone("z")), api.OK)
			is(t, "P6.10: and back", x.Commit(gone("y"), put("z", letters(v))), api.OK)
			is(t, "P6.10: still full", x.Commit(put("y", "")), api.ErrFull)
		}
		is(t, "P6.10: room is made", x.Commit(gone("z")), api.OK)
		is(t, "P6.10: room is used", x.Commit(put("y", letters(v))), api.OK)
	}
}

func TestFallen(t *testing.T) {
	for _, how := range []string{"Commit", "empty Commit", "Flush", "broken Commit", "broken Flush"} {
		d := formatted(t, 100)
		x := open(t, d)
		is(t, "P6.3", x.Commit(put("a", "1")), api.OK)
		switch how {
		case "Commit":
			bringDown(t, d)
			is(t, "P6.3: no power", x.Commit(put("b", "2")), api.ErrPower)
		case "empty Commit":
			bringDown(t, d)
			is(t, "P6.3: no power, an empty batch", x.Commit(), api.ErrPower)
		case "Flush":
			bringDown(t, d)
			is(t, "P6.4: no power", x.Flush(), api.ErrPower)
		case "broken Commit":
			d.Cut(1)
			is(t, "P6.3: broken off", x.Commit(put("b", letters(150))), api.ErrPower)
		case "broken Flush":
			d.Cut(0)
			is(t, "P6.4: broken off", x.Flush(), api.ErrPower)
		}
		for range 2 { // also behind a crash
			is(t, "P6.3: ErrArg is ahead of the fall", x.Commit(put("", "")), api.ErrArg)
			is(t, "P6.3: "+how+": fallen", x.Commit(put("b", "2")), api.ErrPower)
			is(t, "P6.3: "+how+": fallen, an empty batch", x.Commit(), api.ErrPower)
			is(t, "P6.3: the fall is ahead of ErrSize", x.Commit(slices.Repeat([]table.Change{put("a", letters(1000))}, 9)...), api.ErrPower)
			is(t, "P6.3: the fall is ahead of ErrFull", x.Commit(put("a", letters(1000))), api.ErrPower)
			is(t, "P6.4: "+how+": fallen", x.Flush(), api.ErrPower)
			has(t, "6.3: what tells goes on: "+how, x, "a=1")
			tells(t, "6.3: what tells goes on: "+how, x, 1, 4, 929, 1, 2)
			d.Crash(nil)
		}
		has(t, "P6.8", open(t, d))
	}
}

// The power may go and come again behind a table's back: it falls with what it finds.
func TestPowerThatIsNotLookedAt(t *testing.T) {
	d := formatted(t, 100)
	x := open(t, d)
	bringDown(t, d)
	is(t, "P6.3: ErrArg first, and no look", x.Commit(put("", "")), api.ErrArg)
	if _, ok := x.Get([]byte("a")); ok || len(walk(x, "", "")) > 0 || x.Epoch() != 2 {
		t.Error("P6.5: what tells without power")
	}
	d.Crash(nil)
	is(t, "P6.3: it has not fallen", x.Commit(put("a", "1")), api.OK)
	has(t, "P6.3", x, "a=1")
}

// A log at its end answers ErrEnd; the table falls with it, and stays so whatever the power does.
func TestLogAtItsEnd(t *testing.T) {
	const most = api.MaxNumber
	stand := func(generation, first uint64) *disk.Disk {
		d := newDisk(t, 100)
		is(t, "P4.6", d.Write(0, headText(generation, 1, first, 1, 100)), api.OK)
		is(t, "P4.6", d.Write(1, headText(generation+1, 1, first, 1, 100)), api.OK)
		l := openLog(t, d)
		if n, e := l.Append([]byte{2, 0, 1}); n != first || e != api.OK {
			t.Fatalf("P5.4: Append = %d, %d", n, e)
		}
		is(t, "P5.5", l.Flush(), api.OK)
		return d
	}
	// The pieces' numbers come to their end.
	d := stand(2, most-10)
	x := open(t, d)
	is(t, "P6.3", x.Commit(put("a", letters(900))), api.OK)
	is(t, "P6.3", x.Commit(put("b", "2")), api.OK)
	is(t, "P6.3: no number is left", x.Commit(put("c", "3")), api.ErrEnd)
	is(t, "P6.3: fallen", x.Commit(), api.ErrEnd)
	is(t, "P6.3: fallen", x.Commit(put("", "")), api.ErrArg)
	is(t, "P6.4: fallen", x.Flush(), api.ErrEnd)
	bringDown(t, d)
	is(t, "P6.3: the first error stays", x.Commit(put("c", "3")), api.ErrEnd)
	is(t, "P6.4: the first error stays", x.Flush(), api.ErrEnd)
	has(t, "P6.3: the pairs are as they were", x, "a="+letters(900), "b=2")
	if x.Unflushed() != 2 {
		t.Errorf("P6.3: Unflushed %d", x.Unflushed())
	}
	// The heads come to their end: the checkpoint is flushed, and can't be trimmed.
	d = stand(most-3, 0)
	x = open(t, d)
	for range 9 {
		is(t, "P6.3", x.Commit(put("a", letters(900))), api.OK)
	}
	is(t, "P6.3: no generation is left", x.Commit(put("a", strings.Repeat("z", 900))), api.ErrEnd)
	tells(t, "P6.3: flushed in the checkpoint that came to no end", x, 1, 904, 29, 0, 3)
	has(t, "P6.3: the pairs are as they were", x, "a="+letters(900))
	is(t, "P6.4: fallen", x.Flush(), api.ErrEnd)
	_, e := table.Open(d, 0, 100)
	is(t, "P6.2: the errors of seglog's Open", e, api.ErrEnd)
}

func TestNobody(t *testing.T) {
	var none *table.Table
	for _, x := range []*table.Table{none, {}, new(table.Table)} {
		is(t, "P6.7: an empty batch", x.Commit(), api.ErrArg)
		is(t, "P6.7", x.Commit(put("a", "x")), api.ErrArg)
		is(t, "P6.7", x.Flush(), api.ErrArg)
		v, ok := x.Get([]byte("a"))
		if len(v) > 0 || ok {
			t.Errorf("P6.7: Get = %q, %v", v, ok)
		}
		if x.Walk(nil, nil) == nil || x.Walk([]byte("a"), nil) == nil {
			t.Error("P6.7: an iterator that is nil")
		}
		has(t, "P6.7", x)
		tells(t, "P6.7", x, 0, 0, 0, 0, 0)
	}
}
