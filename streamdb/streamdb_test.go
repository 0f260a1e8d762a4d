package streamdb_test

import (
	"math"
	"slices"
	"strings"
	"testing"

	"halyard/api"
	"halyard/disk"
	"halyard/streamdb"
	"halyard/table"
)

const top = math.MaxUint64

func is(t *testing.T, what string, got, want api.Errno) {
	t.Helper()
	if got != want {
		t.Errorf("%s: %d, want %d", what, got, want)
	}
}

// formatted: a disk of that many sectors, all of them an empty table.
func formatted(t *testing.T, size int) *disk.Disk {
	t.Helper()
	d, _ := disk.New(size)
	if e := table.Format(d, 0, size); e != api.OK {
		t.Fatalf("P6.1: Format(d, 0, %d): %d", size, e)
	}
	return d
}

// openTable: the table that all of a disk is.
func openTable(t *testing.T, d *disk.Disk) *table.Table {
	t.Helper()
	tb, e := table.Open(d, 0, d.Sectors())
	if tb == nil || e != api.OK {
		t.Fatalf("P6.2: Open = %v, %d", tb, e)
	}
	return tb
}

func openDB(t *testing.T, tb *table.Table) *streamdb.DB {
	t.Helper()
	db, e := streamdb.Open(tb)
	if db == nil || e != api.OK {
		t.Fatalf("P802: Open = %v, %d", db, e)
	}
	return db
}

// fresh: a database on a disk of its own.
func fresh(t *testing.T) (*disk.Disk, *table.Table, *streamdb.DB) {
	t.Helper()
	d := formatted(t, 400)
	tb := openTable(t, d)
	return d, tb, openDB(t, tb)
}

func at(time, seq uint64) api.Stamp { return api.Stamp{Time: time, Seq: seq} }

// frame: of stream 3, with the life 50.
func frame(time, seq uint64, data string) api.Frame {
	return api.Frame{Stream: 3, Stamp: at(time, seq), Life: 50, Data: []byte(data)}
}

func quota(count, bytes int) api.Quota { return api.Quota{Count: count, Bytes: bytes} }

func same(a, b api.Frame) bool {
	return a.Stream == b.Stream && a.Stamp == b.Stamp && a.Life == b.Life && string(a.Data) == string(b.Data)
}

func inserts(t *testing.T, db *streamdb.DB, f api.Frame, now uint64, show, shown bool, want api.Errno) {
	t.Helper()
	if got, e := db.Insert(f, now, show); got != shown || e != want {
		t.Errorf("P804: Insert(%d %v, %d, %v) = %v, %d, want %v, %d", f.Stream, f.Stamp, now, show, got, e, shown, want)
	}
}

func sweeps(t *testing.T, db *streamdb.DB, now uint64, want int) {
	t.Helper()
	if n, e := db.Sweep(now); n != want || e != api.OK {
		t.Errorf("P805: Sweep(%d) = %d, %d, want %d", now, n, e, want)
	}
}

// has: a stream has just these frames, by Frames and Count.
func has(t *testing.T, what string, db *streamdb.DB, stream int, want ...api.Frame) {
	t.Helper()
	got := slices.Collect(db.Frames(stream))
	if !slices.EqualFunc(got, want, same) {
		t.Errorf("%s: the frames of %d are %v, want %v", what, stream, got, want)
	}
	bytes := 0
	for _, f := range want {
		bytes += len(f.Data)
	}
	if n, b := db.Count(stream); n != len(want) || b != bytes {
		t.Errorf("%s: Count(%d) = %d, %d, want %d, %d", what, stream, n, b, len(want), bytes)
	}
}

// marks: High and Floor; nil: there is none.
func marks(t *testing.T, what string, db *streamdb.DB, stream int, high, floor *api.Stamp) {
	t.Helper()
	for name, x := range map[string]struct {
		look func(int) (api.Stamp, bool)
		want *api.Stamp
	}{"High": {db.High, high}, "Floor": {db.Floor, floor}} {
		s, ok := x.look(stream)
		if ok != (x.want != nil) || x.want != nil && s != *x.want || x.want == nil && s != (api.Stamp{}) {
			t.Errorf("%s: %s(%d) = %v, %v, want %v", what, name, stream, s, ok, x.want)
		}
	}
}

func ref(s api.Stamp) *api.Stamp { return &s }

// lies: the table has just these pairs.
func lies(t *testing.T, what string, tb *table.Table, want ...string) {
	t.Helper()
	var got []string
	for k, v := range tb.Walk(nil, nil) {
		got = append(got, string(k)+"="+string(v))
	}
	if !slices.Equal(got, want) {
		t.Errorf("%s: there lies % x, want % x", what, got, want)
	}
}

func TestExamples(t *testing.T) {
	_, tb, db := fresh(t)
	is(t, "P803: Listen", db.Listen(3, quota(2, 10)), api.OK)
	is(t, "P803: again", db.Listen(3, quota(2, 10)), api.ErrTwice)
	is(t, "P803: no quota", db.Listen(3, quota(0, 1)), api.ErrQuota)
	is(t, "P803: no stream", db.Listen(8, quota(2, 10)), api.ErrArg)
	a, b, c := frame(100, 1, "abc"), frame(100, 2, "de"), frame(99, 9, "f")
	e, g := frame(101, 1, "0123456789"), frame(102, 7, "0123456789x")

	inserts(t, db, a, 100, true, true, api.OK)
	marks(t, "P804", db, 3, &a.Stamp, nil)
	lies(t, "P804", tb, "\x64\x66\x03\x00\x00\x00\x00\x00\x64\x00\x00\x00\x00\x00\x01=\x32\x03\x61\x62\x63", "\x64\x73\x03=\x01\x02\x0a\x01\x64\x01\x00\x00\x00")
	inserts(t, db, b, 100, false, false, api.OK)
	inserts(t, db, a, 100, true, false, api.ErrTwice)
	inserts(t, db, c, 100, true, false, api.ErrOld)
	marks(t, "P804: it would roll out itself", db, 3, &a.Stamp, nil)
	inserts(t, db, g, 100, true, false, api.ErrSize)
	inserts(t, db, a, 150, true, false, api.ErrExpired)
	has(t, "P807", db, 3, a, b)

	inserts(t, db, e, 101, true, true, api.OK)
	marks(t, "P804: rolled out", db, 3, &e.Stamp, &b.Stamp)
	lies(t, "P804", tb, "\x64\x66\x03\x00\x00\x00\x00\x00\x65\x00\x00\x00\x00\x00\x01=\x32\x0a0123456789", "\x64\x73\x03=\x01\x02\x0a\x01\x65\x01\x01\x64\x02")
	inserts(t, db, b, 101, true, false, api.ErrOld)
	has(t, "P807", db, 3, e)

	sweeps(t, db, 150, 0)
	sweeps(t, db, 151, 1)
	has(t, "P805", db, 3)
	other := a
	other.Stream = 2
	inserts(t, db, other, 100, true, false, api.ErrStream)

	is(t, "P803: Unlisten", db.Unlisten(3), api.OK)
	is(t, "P803: again", db.Unlisten(3), api.ErrStream)
	is(t, "P803: Listen", db.Listen(3, quota(5, 10)), api.OK)
	marks(t, "P808: marks stay", db, 3, &e.Stamp, &b.Stamp)
	late := frame(101, 0, "q")
	late.Life = 90
	inserts(t, db, late, 101, true, false, api.OK)
	has(t, "P807", db, 3, late)
}

// nobody: what a database answers that nobody made.
func nobody(t *testing.T, what string, db *streamdb.DB) {
	t.Helper()
	for _, n := range []int{-1, 0, 3, 8} {
		is(t, "P801: Listen of "+what, db.Listen(n, quota(1, 1)), api.ErrArg)
		is(t, "P801: Listen without a quota of "+what, db.Listen(n, quota(0, 0)), api.ErrArg)
		is(t, "P801: Unlisten of "+what, db.Unlisten(n), api.ErrArg)
		if shown, e := db.Insert(frame(100, 1, "a"), 100, true); shown || e != api.ErrArg {
			t.Errorf("P801: Insert of %s = %v, %d", what, shown, e)
		}
		if k, e := db.Sweep(100); k != 0 || e != api.ErrArg {
			t.Errorf("P801: Sweep of %s = %d, %d", what, k, e)
		}
		zeros(t, "P801: "+what, db, n)
	}
}

// zeros: nothing is told of a stream.
func zeros(t *testing.T, what string, db *streamdb.DB, n int) {
	t.Helper()
	if q, ok := db.Quota(n); q != quota(0, 0) || ok {
		t.Errorf("%s: Quota(%d) = %v, %v", what, n, q, ok)
	}
	marks(t, what, db, n, nil, nil)
	has(t, what, db, n)
	for _, s := range []api.Stamp{{}, at(100, 1), at(top, top)} {
		if f, ok := db.Least(n, s); !same(f, api.Frame{}) || ok {
			t.Errorf("%s: Least(%d) = %v, %v", what, n, f, ok)
		}
		if f, ok := db.Greatest(n, s); !same(f, api.Frame{}) || ok {
			t.Errorf("%s: Greatest(%d) = %v, %v", what, n, f, ok)
		}
	}
	if db.Frames(n) == nil {
		t.Errorf("%s: Frames(%d) is nil", what, n)
	}
}

func TestNobodysDatabase(t *testing.T) {
	nobody(t, "nil", nil)
	nobody(t, "one that Open did not make", new(streamdb.DB))
}

func TestOpenOfNoTable(t *testing.T) {
	for what, tb := range map[string]*table.Table{"nil": nil, "made by nobody": new(table.Table)} {
		if db, e := streamdb.Open(tb); db != nil || e != api.ErrArg {
			t.Errorf("P802: Open of a table that is %s = %v, %d", what, db, e)
		}
	}
}

func TestOpenOfAnEmptyTable(t *testing.T) {
	_, tb, db := fresh(t)
	for n := -1; n <= 8; n++ {
		zeros(t, "P802: an empty table", db, n)
	}
	if tb.Unflushed() != 0 || tb.Len() != 0 {
		t.Errorf("P802: Open committed: Unflushed %d, Len %d", tb.Unflushed(), tb.Len())
	}
}

// A table that has fallen, or whose disk has no power, is opened as any other one; what needs a commit answers its error.
func TestFallenTable(t *testing.T) {
	d, tb, db := fresh(t)
	a, b := frame(100, 1, "abc"), frame(100, 2, "de")
	is(t, "P803", db.Listen(3, quota(2, 10)), api.OK)
	is(t, "P803", db.Listen(5, quota(2, 10)), api.OK)
	inserts(t, db, a, 100, true, true, api.OK)
	d.Cut(0)
	is(t, "P4.5", d.Flush(), api.ErrPower)
	for _, what := range []string{"the power is gone", "the table has fallen"} {
		other := openDB(t, tb)
		for _, db := range []*streamdb.DB{db, other} {
			is(t, "P801: Listen: "+what, db.Listen(4, quota(2, 10)), api.ErrPower)
			is(t, "P801: Unlisten: "+what, db.Unlisten(3), api.ErrPower)
			is(t, "P801: Unlisten: "+what, db.Unlisten(5), api.ErrPower)
			inserts(t, db, b, 100, true, false, api.ErrPower)
			if n, e := db.Sweep(150); n != 0 || e != api.ErrPower {
				t.Errorf("P805: Sweep: %s: %d, %d", what, n, e)
			}
			sweeps(t, db, 149, 0)
			// The questions come ahead of the commit.
			is(t, "P803: "+what, db.Listen(3, quota(1, 1)), api.ErrTwice)
			is(t, "P803: "+what, db.Unlisten(4), api.ErrStream)
			inserts(t, db, a, 100, true, false, api.ErrTwice)
			has(t, "P801: "+what, db, 3, a)
			marks(t, "P801: "+what, db, 3, &a.Stamp, nil)
			zeros(t, "P801: "+what, db, 4)
			if q, ok := db.Quota(5); q != quota(2, 10) || !ok {
				t.Errorf("P801: %s: Quota(5) = %v, %v", what, q, ok)
			}
		}
	}
}

func TestListen(t *testing.T) {
	_, tb, db := fresh(t)
	for _, n := range []int{math.MinInt, -1, 8, 256, 1 << 40, math.MaxInt} {
		is(t, "P803: a stream that is none", db.Listen(n, quota(1, 1)), api.ErrArg)
		is(t, "P803: nor a quota", db.Listen(n, quota(0, 0)), api.ErrArg)
		is(t, "P803: Unlisten of a stream that is none", db.Unlisten(n), api.ErrArg)
		zeros(t, "P806: a stream that is none", db, n)
	}
	for _, q := range []api.Quota{{}, quota(0, 1), quota(1, 0), quota(-1, 1), quota(1, -1), quota(65, 1), quota(1, 16385), quota(math.MaxInt, math.MaxInt), quota(math.MinInt, 5)} {
		is(t, "P803: a quota that is none", db.Listen(0, q), api.ErrQuota)
	}
	lies(t, "P803: what was refused", tb)
	is(t, "P803: the least quota", db.Listen(0, quota(1, 1)), api.OK)
	is(t, "P803: the greatest one", db.Listen(7, quota(64, 16384)), api.OK)
	lies(t, "P803", tb, "ds\x00=\x01\x01\x01\x00\x00\x00\x00\x00\x00", "ds\x07=\x01\x40\x81\x80\x00\x00\x00\x00\x00\x00\x00")
	is(t, "P803: it is listened to", db.Listen(0, quota(2, 2)), api.ErrTwice)
	is(t, "P803: ErrQuota ahead of ErrTwice", db.Listen(0, quota(2, 0)), api.ErrQuota)
	if q, ok := db.Quota(7); q != quota(64, 16384) || !ok {
		t.Errorf("P806: Quota(7) = %v, %v", q, ok)
	}
	if q, ok := db.Quota(0); q != quota(1, 1) || !ok {
		t.Errorf("P806: Quota(0) = %v, %v", q, ok)
	}
	zeros(t, "P806", db, 1)
	is(t, "P803: Unlisten", db.Unlisten(0), api.OK)
	lies(t, "P803: nothing but zeros is known", tb, "ds\x07=\x01\x40\x81\x80\x00\x00\x00\x00\x00\x00\x00")
	is(t, "P803: Unlisten", db.Unlisten(0), api.ErrStream)
	zeros(t, "P803", db, 0)
	if tb.Unflushed() != 3 {
		t.Errorf("P803: %d commits", tb.Unflushed())
	}
}

// Unlisten with marks and without, of the most frames that there can be.
func TestUnlisten(t *testing.T) {
	_, tb, db := fresh(t)
	is(t, "P803", db.Listen(3, quota(64, 16384)), api.OK)
	is(t, "P803", db.Listen(4, quota(64, 16384)), api.OK)
	for n := range uint64(64) {
		inserts(t, db, frame(100, n, "abcdefgh"), 100, false, false, api.OK)
	}
	other := frame(100, 7, "other")
	other.Stream = 4
	inserts(t, db, other, 100, true, true, api.OK)
	commits := tb.Unflushed()
	is(t, "P803: Unlisten with 64 frames", db.Unlisten(3), api.OK)
	if tb.Unflushed() != commits+1 {
		t.Errorf("P803: Unlisten makes %d commits", tb.Unflushed()-commits)
	}
	zeros(t, "P803", db, 3)
	has(t, "P803: the other stream", db, 4, other)
	is(t, "P803: Unlisten with a mark", db.Unlisten(4), api.OK)
	lies(t, "P803: the mark stays", tb, "ds\x04=\x00\x00\x00\x01\x64\x07\x00\x00\x00")
	marks(t, "P803", db, 4, &other.Stamp, nil)
	has(t, "P803", db, 4)
	if q, ok := db.Quota(4); q != quota(0, 0) || ok {
		t.Errorf("P803: Quota(4) = %v, %v", q, ok)
	}
	inserts(t, db, other, 100, true, false, api.ErrStream)
	is(t, "P803: Listen anew", db.Listen(4, quota(1, 5)), api.OK)
	lies(t, "P803: the mark stays", tb, "ds\x04=\x01\x01\x05\x01\x64\x07\x00\x00\x00")
	has(t, "P803: without frames", db, 4)
	inserts(t, db, other, 100, true, false, api.OK)
	has(t, "P807", db, 4, other)
}

// A mark at the stamp of zeros is one, and stays.
func TestMarksAtZero(t *testing.T) {
	_, tb, db := fresh(t)
	is(t, "P803", db.Listen(3, quota(1, 10)), api.OK)
	zero, one := frame(0, 0, ""), frame(0, 1, "")
	inserts(t, db, zero, 0, true, true, api.OK)
	marks(t, "P804: a high-water mark of zeros", db, 3, ref(at(0, 0)), nil)
	lies(t, "P804", tb, "df\x03\x00\x00\x00\x00\x00\x00\x00\x00\x00\x00\x00\x00=\x32\x00", "ds\x03=\x01\x01\x0a\x01\x00\x00\x00\x00\x00")
	is(t, "P803", db.Unlisten(3), api.OK)
	lies(t, "P803: a mark of zeros is known", tb, "ds\x03=\x00\x00\x00\x01\x00\x00\x00\x00\x00")
	is(t, "P803", db.Listen(3, quota(1, 10)), api.OK)
	inserts(t, db, zero, 0, true, false, api.OK)
	inserts(t, db, one, 0, false, false, api.OK)
	marks(t, "P804: a floor of zeros", db, 3, ref(at(0, 0)), ref(at(0, 0)))
	inserts(t, db, zero, 0, true, false, api.ErrOld)
	is(t, "P803", db.Unlisten(3), api.OK)
	lies(t, "P803", tb, "ds\x03=\x00\x00\x00\x01\x00\x00\x01\x00\x00")
	db = openDB(t, tb)
	marks(t, "P809", db, 3, ref(at(0, 0)), ref(at(0, 0)))
}

// A frame that is not good, also where other errors apply.
func TestInsertOfNoFrame(t *testing.T) {
	_, tb, db := fresh(t)
	is(t, "P803", db.Listen(3, quota(2, 16384)), api.OK)
	for what, f := range map[string]api.Frame{
		"no stream":             {Stream: -1, Stamp: at(100, 1), Life: 50},
		"stream 8":              {Stream: 8, Stamp: at(100, 1), Life: 50},
		"a stream far off":      {Stream: 3 + 256, Stamp: at(100, 1), Life: 50},
		"the least stream":      {Stream: math.MinInt, Stamp: at(100, 1), Life: 50},
		"a time above":          {Stream: 3, Stamp: at(1<<48, 1), Life: 50},
		"the greatest time":     {Stream: 3, Stamp: at(top, 1), Life: 1},
		"a number above":        {Stream: 3, Stamp: at(100, 1<<48), Life: 50},
		"a life above":          {Stream: 3, Stamp: at(100, 1), Life: 1 << 48},
		"a life that wraps":     {Stream: 3, Stamp: at(100, 1), Life: top},
		"too many bytes":        {Stream: 3, Stamp: at(100, 1), Life: 50, Data: make([]byte, 513)},
		"nobody's, and above":   {Stream: 2, Stamp: at(100, 1<<48), Life: 50},
		"nobody's, and great":   {Stream: 2, Stamp: at(100, 1), Life: 50, Data: make([]byte, 513)},
		"far too many bytes":    {Stream: 3, Stamp: at(100, 1), Life: 50, Data: make([]byte, 1<<20)},
		"its life is over, too": {Stream: 3, Stamp: at(10, 1<<48), Life: 5},
	} {
		if shown, e := db.Insert(f, 100, true); shown || e != api.ErrArg {
			t.Errorf("P804: %s: %v, %d", what, shown, e)
		}
	}
	has(t, "P804", db, 3)
	lies(t, "P804", tb, "ds\x03=\x01\x02\x81\x80\x00\x00\x00\x00\x00\x00\x00")
	full := api.Frame{Stream: 3, Stamp: at(1<<48-1, 1<<48-1), Life: 1<<48 - 1, Data: make([]byte, 512)}
	inserts(t, db, full, 1<<48-1, true, true, api.OK)
	lies(t, "P804: the greatest frame", tb, "df\x03\xff\xff\xff\xff\xff\xff\xff\xff\xff\xff\xff\xff=\xbf\xff\xff\xff\xff\xff\x7f\x84\x00"+strings.Repeat("\x00", 512), "ds\x03=\x01\x02\x81\x80\x00\x01\xbf\xff\xff\xff\xff\xff\x7f\xbf\xff\xff\xff\xff\xff\x7f\x00\x00\x00")
	has(t, "P804: the greatest frame", openDB(t, tb), 3, full)
	db.Sweep(top)
	has(t, "P805: a time above all counts as MaxNumber: its life is not over", db, 3, full)
}

// The errors of Insert in their order: each input has all faults from the one that is asked for on.
func TestOrderOfQuestions(t *testing.T) {
	_, _, db := fresh(t)
	is(t, "P803", db.Listen(3, quota(2, 5)), api.OK)
	for n := range uint64(4) {
		inserts(t, db, frame(100, n, "ab"), 100, false, false, api.OK)
	}
	marks(t, "P804", db, 3, nil, ref(at(100, 1)))
	f := frame(1, 1, strings.Repeat("x", 513))
	f.Stream = 2
	inserts(t, db, f, 200, true, false, api.ErrArg)
	f.Data = f.Data[:6]
	inserts(t, db, f, 200, true, false, api.ErrStream)
	f.Stream = 3
	inserts(t, db, f, 200, true, false, api.ErrSize)
	f.Data = f.Data[:5]
	inserts(t, db, f, 200, true, false, api.ErrExpired)
	inserts(t, db, f, 51, true, false, api.ErrExpired)
	inserts(t, db, f, 50, true, false, api.ErrOld)
	f.Stamp = at(100, 1)
	inserts(t, db, f, 150, true, false, api.ErrExpired)
	inserts(t, db, f, 149, true, false, api.ErrOld)
	f.Stamp = at(100, 2) // 5 bytes and the 2 above it would be too many
	inserts(t, db, f, 150, true, false, api.ErrExpired)
	inserts(t, db, f, 149, true, false, api.ErrTwice)
	has(t, "P804: what was refused", db, 3, frame(100, 2, "ab"), frame(100, 3, "ab"))
	marks(t, "P804: what was refused", db, 3, nil, ref(at(100, 1)))
}

// A frame that would roll out itself, by the count and by the bytes; just at the quota it does not.
func TestWouldRollOutItself(t *testing.T) {
	_, _, db := fresh(t)
	is(t, "P803", db.Listen(3, quota(3, 10)), api.OK)
	a, b := frame(100, 5, "abcd"), frame(100, 7, "efg")
	inserts(t, db, a, 100, false, false, api.OK)
	inserts(t, db, b, 100, false, false, api.OK)
	inserts(t, db, frame(100, 3, "1234"), 100, true, false, api.ErrOld)
	inserts(t, db, frame(100, 6, "12345678"), 100, true, false, api.ErrOld)
	c := frame(100, 3, "123")
	inserts(t, db, c, 100, false, false, api.OK)
	has(t, "P804: just at the bytes", db, 3, c, a, b)
	inserts(t, db, frame(100, 2, ""), 100, true, false, api.ErrOld)
	marks(t, "P804", db, 3, nil, nil)
	d := frame(100, 6, "1234567")
	inserts(t, db, d, 100, true, true, api.OK)
	has(t, "P804: those below it go", db, 3, d, b)
	marks(t, "P804", db, 3, &d.Stamp, &a.Stamp)
	e := frame(100, 6, "")
	e.Stamp.Time = 101
	inserts(t, db, e, 100, true, true, api.OK)
	has(t, "P804: a frame without bytes has room", db, 3, d, b, e)
	inserts(t, db, frame(100, 8, "0"), 100, true, false, api.OK)
	has(t, "P804: the least one goes", db, 3, b, frame(100, 8, "0"), e)
	marks(t, "P804", db, 3, &e.Stamp, &d.Stamp)
	inserts(t, db, frame(100, 6, ""), 100, true, false, api.ErrOld)
}

// Frames without data roll out by the count alone; a frame that takes all bytes rolls 63 out at once.
func TestRollsOutMany(t *testing.T) {
	_, tb, db := fresh(t)
	is(t, "P803", db.Listen(3, quota(64, 512)), api.OK)
	for n := range uint64(64) {
		inserts(t, db, frame(100, n, "12345678"), 100, true, true, api.OK)
	}
	if n, b := db.Count(3); n != 64 || b != 512 {
		t.Errorf("P806: Count = %d, %d", n, b)
	}
	commits := tb.Unflushed()
	most := frame(100, 64, strings.Repeat("z", 512))
	inserts(t, db, most, 100, true, true, api.OK)
	has(t, "P804: all go", db, 3, most)
	marks(t, "P804", db, 3, &most.Stamp, ref(at(100, 63)))
	if tb.Unflushed() != commits+1 {
		t.Errorf("P804: %d commits", tb.Unflushed()-commits)
	}
	for n := uint64(65); n < 200; n++ {
		inserts(t, db, frame(100, n, ""), 100, false, false, api.OK)
	}
	if n, b := db.Count(3); n != 64 || b != 0 {
		t.Errorf("P804: Count = %d, %d", n, b)
	}
	marks(t, "P804", db, 3, &most.Stamp, ref(at(100, 135)))
}

func TestShown(t *testing.T) {
	_, _, db := fresh(t)
	is(t, "P803", db.Listen(3, quota(64, 100)), api.OK)
	inserts(t, db, frame(100, 5, "a"), 100, false, false, api.OK)
	marks(t, "P804: not asked for", db, 3, nil, nil)
	inserts(t, db, frame(100, 4, "a"), 100, true, true, api.OK)
	marks(t, "P804", db, 3, ref(at(100, 4)), nil)
	inserts(t, db, frame(99, 9, "a"), 100, true, false, api.OK)
	inserts(t, db, frame(100, 3, "a"), 100, true, false, api.OK)
	marks(t, "P804: below the mark", db, 3, ref(at(100, 4)), nil)
	inserts(t, db, frame(101, 0, "a"), 100, true, true, api.OK)
	marks(t, "P804: above the mark", db, 3, ref(at(101, 0)), nil)
	inserts(t, db, frame(102, 0, "a"), 100, false, false, api.OK)
	marks(t, "P804: not asked for", db, 3, ref(at(101, 0)), nil)
	inserts(t, db, frame(101, 1, "a"), 100, true, true, api.OK)
	marks(t, "P804", db, 3, ref(at(101, 1)), nil)
	// At the mark itself: the frame has been swept, and comes again.
	again := frame(101, 1, "b")
	again.Life = 500
	sweeps(t, db, 151, 6)
	inserts(t, db, again, 152, true, false, api.OK)
	for n := range 8 {
		if n != 3 {
			zeros(t, "P804: of other streams nothing is known", db, n)
		}
	}
}

func TestSweep(t *testing.T) {
	_, tb, db := fresh(t)
	is(t, "P803", db.Listen(1, quota(9, 100)), api.OK)
	is(t, "P803", db.Listen(6, quota(9, 100)), api.OK)
	is(t, "P803", db.Listen(7, quota(9, 100)), api.OK)
	put := func(stream int, time, seq, life uint64) api.Frame {
		f := api.Frame{Stream: stream, Stamp: at(time, seq), Life: life, Data: []byte("ab")}
		inserts(t, db, f, 0, true, true, api.OK)
		return f
	}
	a, b, c := put(1, 10, 0, 50), put(1, 20, 0, 20), put(1, 30, 0, 60)
	d, e := put(6, 10, 0, 31), put(6, 1000, 0, 1<<48-1)
	f := put(7, 1<<48-1, 0, 1)
	commits := func(now uint64, want, commits int) {
		t.Helper()
		was := tb.Unflushed()
		sweeps(t, db, now, want)
		if tb.Unflushed() != was+commits {
			t.Errorf("P805: Sweep(%d) makes %d commits, want %d", now, tb.Unflushed()-was, commits)
		}
	}
	commits(0, 0, 0)
	commits(39, 0, 0)
	commits(40, 1, 1)
	has(t, "P805: from the midst", db, 1, a, c)
	commits(40, 0, 0)
	commits(60, 2, 2)
	has(t, "P805", db, 1, c)
	has(t, "P805", db, 6, e)
	marks(t, "P805: marks stay", db, 1, &c.Stamp, nil)
	commits(top, 1, 1)
	has(t, "P805", db, 1)
	has(t, "P805", db, 6, e)
	has(t, "P805", db, 7, f)
	// What was swept has no floor behind it: it is refused by its life alone.
	inserts(t, db, b, 39, true, false, api.OK)
	inserts(t, db, d, 41, true, false, api.ErrExpired)
	has(t, "P805", db, 1, b)
}

// A frame without a life is over at its time at once.
func TestInsertLife(t *testing.T) {
	_, _, db := fresh(t)
	is(t, "P803", db.Listen(3, quota(9, 100)), api.OK)
	f := frame(100, 1, "a")
	f.Life = 0
	inserts(t, db, f, 99, false, false, api.OK)
	f.Stamp.Seq = 2
	inserts(t, db, f, 100, false, false, api.ErrExpired)
	inserts(t, db, f, top, false, false, api.ErrExpired)
	f.Life = 1
	inserts(t, db, f, 101, false, false, api.ErrExpired)
	inserts(t, db, f, 100, false, false, api.OK)
	f.Stamp, f.Life = at(1<<48-1, 1), 0
	inserts(t, db, f, top, false, false, api.ErrExpired)
	f.Life = 1 // over at 2^48, to which no time comes
	inserts(t, db, f, top, false, false, api.OK)
	f.Stamp.Seq = 2
	inserts(t, db, f, 1<<48, false, false, api.OK)
}

func TestLooks(t *testing.T) {
	_, _, db := fresh(t)
	is(t, "P803", db.Listen(3, quota(9, 100)), api.OK)
	a, b, c := frame(100, 5, "a"), frame(100, 7, "bc"), frame(200, 0, "")
	for _, f := range []api.Frame{b, c, a} {
		inserts(t, db, f, 100, false, false, api.OK)
	}
	has(t, "P806", db, 3, a, b, c)
	for _, x := range []struct {
		s               api.Stamp
		least, greatest *api.Frame
	}{
		{at(0, 0), &a, nil}, {at(99, top), &a, nil}, {at(100, 4), &a, nil}, {at(100, 5), &a, &a}, {at(100, 6), &b, &a}, {at(100, 7), &b, &b},
		{at(100, 8), &c, &b}, {at(199, 1), &c, &b}, {at(200, 0), &c, &c}, {at(200, 1), nil, &c}, {at(top, top), nil, &c},
	} {
		for name, y := range map[string]struct {
			look func(int, api.Stamp) (api.Frame, bool)
			want *api.Frame
		}{"Least": {db.Least, x.least}, "Greatest": {db.Greatest, x.greatest}} {
			f, ok := y.look(3, x.s)
			if ok != (y.want != nil) || ok && !same(f, *y.want) || !ok && !same(f, api.Frame{}) {
				t.Errorf("P806: %s(3, %v) = %v, %v, want %v", name, x.s, f, ok, y.want)
			}
			if f, ok := y.look(2, x.s); ok || !same(f, api.Frame{}) {
				t.Errorf("P806: %s(2, %v) = %v, %v", name, x.s, f, ok)
			}
		}
	}
	var got []api.Frame
	for f := range db.Frames(3) {
		if got = append(got, f); len(got) == 2 {
			break
		}
	}
	if !slices.EqualFunc(got, []api.Frame{a, b}, same) {
		t.Errorf("P806: Frames, broken off: %v", got)
	}
}

// Frames are ordered as stamps are, over all bytes of their keys.
func TestOrderOverManyBytes(t *testing.T) {
	_, tb, db := fresh(t)
	is(t, "P803", db.Listen(3, quota(64, 100)), api.OK)
	var want []api.Frame
	for _, time := range []uint64{0, 1, 255, 256, 1 << 16, 1 << 24, 1 << 32, 1 << 40, 1<<48 - 1} {
		for _, seq := range []uint64{0, 255, 256, 1<<40 + 7, 1<<48 - 1} {
			f := frame(time, seq, "x")
			want = append(want, f)
		}
	}
	for i := range want {
		inserts(t, db, want[(i*7+3)%len(want)], 0, false, false, api.OK)
	}
	has(t, "P807", db, 3, want...)
	has(t, "P809", openDB(t, tb), 3, want...)
}

// Other keys are none of the database's business.
func TestOtherKeys(t *testing.T) {
	d := formatted(t, 400)
	tb := openTable(t, d)
	others := []string{"\x00=a", "\x63=", "\x63\xff\xff=b", "\x65=c", "\x65s\x09=d", "\xff=e"}
	for _, p := range others {
		k, v, _ := strings.Cut(p, "=")
		is(t, "P6.3", tb.Commit(table.Change{Key: []byte(k), Value: []byte(v)}), api.OK)
	}
	db := openDB(t, tb)
	is(t, "P803", db.Listen(3, quota(9, 100)), api.OK)
	inserts(t, db, frame(100, 1, "a"), 100, true, true, api.OK)
	inserts(t, db, frame(100, 2, "a"), 100, true, true, api.OK)
	sweeps(t, db, 150, 2)
	is(t, "P803", db.Unlisten(3), api.OK)
	lies(t, "P802: other keys", tb, "\x00=a", "\x63=", "\x63\xff\xff=b", "ds\x03=\x00\x00\x00\x01\x64\x02\x00\x00\x00", "\x65=c", "\x65s\x09=d", "\xff=e")
}
