package backlog_test

import (
	"fmt"
	"math"
	"slices"
	"strings"
	"testing"

	"halyard/api"
	"halyard/backlog"
	"halyard/disk"
	"halyard/table"
)

const top = math.MaxUint64

func is(t *testing.T, what string, got, want api.Errno) {
	t.Helper()
	if got != want {
		t.Errorf("%s: %d, want %d", what, got, want)
	}
}

// formatted: a disk of that many sectors, all of them an empty table.
func formatted(t *testing.T, size int) *disk.Disk {
	t.Helper()
	d, _ := disk.New(size)
	if e := table.Format(d, 0, size); e != api.OK {
		t.Fatalf("P6.1: Format(d, 0, %d): %d", size, e)
	}
	return d
}

// openTable: the table that all of a disk is.
func openTable(t *testing.T, d *disk.Disk) *table.Table {
	t.Helper()
	tb, e := table.Open(d, 0, d.Sectors())
	if tb == nil || e != api.OK {
		t.Fatalf("P6.2: Open = %v, %d", tb, e)
	}
	return tb
}

func open(t *testing.T, tb *table.Table) *backlog.Backlog {
	t.Helper()
	b, e := backlog.Open(tb)
	if b == nil || e != api.OK {
		t.Fatalf("P902: Open = %v, %d", b, e)
	}
	return b
}

// fresh: a backlog on a disk of its own.
func fresh(t *testing.T) (*disk.Disk, *table.Table, *backlog.Backlog) {
	t.Helper()
	d := formatted(t, 400)
	tb := openTable(t, d)
	return d, tb, open(t, tb)
}

// begun: and these streams are open.
func begun(t *testing.T, streams ...int) (*disk.Disk, *table.Table, *backlog.Backlog) {
	t.Helper()
	d, tb, b := fresh(t)
	for _, n := range streams {
		is(t, "P903: Begin", b.Begin(n), api.OK)
	}
	return d, tb, b
}

func at(time, seq uint64) api.Stamp { return api.Stamp{Time: time, Seq: seq} }

func key(stream int, seq uint64) api.Key { return api.Key{Stream: stream, Seq: seq} }

func frame(stream int, time, seq, life uint64, data string) api.Frame {
	return api.Frame{Stream: stream, Stamp: at(time, seq), Life: life, Data: []byte(data)}
}

func same(a, b api.Frame) bool {
	return a.Stream == b.Stream && a.Stamp == b.Stamp && a.Life == b.Life && string(a.Data) == string(b.Data)
}

// takes: Put answers the frame, with that number.
func takes(t *testing.T, b *backlog.Backlog, f api.Frame, now uint64, newest bool) {
	t.Helper()
	got, n, e := b.Put(f.Stream, f.Stamp.Time, f.Life, f.Data, now)
	if !same(got, f) || n != newest || e != api.OK {
		t.Errorf("P904: Put(%d, %d, %d, %d bytes, %d) = %v, %v, %d, want %v, %v", f.Stream, f.Stamp.Time, f.Life, len(f.Data), now, got, n, e, f, newest)
	}
}

// refuses: Put answers the error, and nothing beside it.
func refuses(t *testing.T, what string, b *backlog.Backlog, stream int, time, life uint64, data []byte, now uint64, want api.Errno) {
	t.Helper()
	f, newest, e := b.Put(stream, time, life, data, now)
	if !same(f, api.Frame{}) || newest || e != want {
		t.Errorf("P904: %s: Put(%d, %d, %d, %d bytes, %d) = %v, %v, %d, want %d", what, stream, time, life, len(data), now, f, newest, e, want)
	}
}

// has: just these frames are there, in this order, by Keys and Get.
func has(t *testing.T, what string, b *backlog.Backlog, want ...api.Frame) {
	t.Helper()
	var keys []api.Key
	for _, f := range want {
		keys = append(keys, key(f.Stream, f.Stamp.Seq))
		if got, ok := b.Get(key(f.Stream, f.Stamp.Seq)); !ok || !same(got, f) {
			t.Errorf("%s: Get(%d, %d) = %v, %v, want %v", what, f.Stream, f.Stamp.Seq, got, ok, f)
		}
	}
	if got := b.Keys(); !slices.Equal(got, keys) {
		t.Errorf("%s: Keys = %v, want %v", what, got, keys)
	}
}

// hasNot: no frame of that key is there.
func hasNot(t *testing.T, what string, b *backlog.Backlog, k api.Key) {
	t.Helper()
	if f, ok := b.Get(k); ok || !same(f, api.Frame{}) {
		t.Errorf("%s: Get(%v) = %v, %v", what, k, f, ok)
	}
}

// over: whose life is over.
func over(t *testing.T, b *backlog.Backlog, now uint64, want ...api.Key) {
	t.Helper()
	if got := b.Over(now); !slices.Equal(got, want) {
		t.Errorf("P906: Over(%d) = %v, want %v", now, got, want)
	}
}

// stands: a stream's next number and its newest stamp; nil: it has none.
func stands(t *testing.T, what string, b *backlog.Backlog, stream int, next uint64, newest *api.Stamp) {
	t.Helper()
	if n := b.Next(stream); n != next {
		t.Errorf("%s: Next(%d) = %d, want %d", what, stream, n, next)
	}
	s, ok := b.Newest(stream)
	if ok != (newest != nil) || ok && s != *newest || !ok && s != (api.Stamp{}) {
		t.Errorf("%s: Newest(%d) = %v, %v, want %v", what, stream, s, ok, newest)
	}
}

func ref(s api.Stamp) *api.Stamp { return &s }

// streams: just these are open.
func streams(t *testing.T, what string, b *backlog.Backlog, want ...int) {
	t.Helper()
	if got := b.Streams(); !slices.Equal(got, want) {
		t.Errorf("%s: Streams = %v, want %v", what, got, want)
	}
}

// lies: the table has just these pairs.
func lies(t *testing.T, what string, tb *table.Table, want ...string) {
	t.Helper()
	var got []string
	for k, v := range tb.Walk(nil, nil) {
		got = append(got, string(k)+"="+string(v))
	}
	if !slices.Equal(got, want) {
		t.Errorf("%s: there lies % x, want % x", what, got, want)
	}
}

func TestExamples(t *testing.T) {
	_, tb, b := fresh(t)
	refuses(t, "1", b, 0, 5, 10, []byte{1}, 0, api.ErrStream)
	is(t, "P903: Begin(0)", b.Begin(0), api.OK)
	is(t, "P903: again", b.Begin(0), api.ErrTwice)
	is(t, "P903: Begin(8)", b.Begin(8), api.ErrArg)
	one := frame(0, 5, 0, 10, "\x01")
	takes(t, b, one, 0, true)
	lies(t, "P904", tb, "b\x00\x00=\x01\x01\x05\x00", "b\x01\x00\x00=\x01\x05\x0a\x01\x01")

	two, three := frame(0, 4, 1, 10, "\x02"), frame(0, 5, 2, 10, "")
	takes(t, b, two, 0, false)
	takes(t, b, three, 0, true)
	has(t, "P906", b, one, two, three)
	stands(t, "P906", b, 0, 3, ref(at(5, 2)))

	refuses(t, "3", b, 0, 4, 10, []byte{3}, 14, api.ErrExpired)
	over(t, b, 14, key(0, 1))
	over(t, b, top, key(0, 0), key(0, 1), key(0, 2))

	is(t, "P905: Done", b.Done(key(0, 1)), api.OK)
	is(t, "P905: again", b.Done(key(0, 1)), api.ErrNone)
	four := frame(0, 9, 3, 0, "\x03")
	takes(t, b, four, 8, true)
	lies(t, "P904: place 4", tb, "b\x00\x00=\x01\x04\x09\x03", "b\x01\x00\x00=\x01\x05\x0a\x01\x01", "b\x01\x00\x02=\x03\x05\x0a\x00", "b\x01\x00\x03=\x04\x09\x00\x01\x03")

	is(t, "P903: Cease", b.Cease(0), api.OK)
	is(t, "P903: again", b.Cease(0), api.ErrStream)
	has(t, "P903: frames stay", b, one, three, four)
	refuses(t, "6: not open", b, 0, 1, 1, make([]byte, 513), 0, api.ErrStream)
	is(t, "P903: Begin", b.Begin(0), api.OK)
	five := frame(0, 1, 4, 5, "x")
	takes(t, b, five, 0, false)
	has(t, "P908", b, one, three, four, five)

	refuses(t, "6", b, 0, 1<<48, 0, nil, 0, api.ErrArg)
	refuses(t, "6", b, 0, 1, 1, make([]byte, 513), 0, api.ErrSize)
}

func TestNobodysBacklog(t *testing.T) {
	for what, b := range map[string]*backlog.Backlog{"nil": nil, "one that Open did not make": new(backlog.Backlog)} {
		for _, n := range []int{math.MinInt, -1, 0, 3, 7, 8, math.MaxInt} {
			is(t, "P901: Begin of "+what, b.Begin(n), api.ErrArg)
			is(t, "P901: Cease of "+what, b.Cease(n), api.ErrArg)
			refuses(t, what, b, n, 5, 10, []byte{1}, 0, api.ErrArg)
			refuses(t, what, b, n, 5, 10, make([]byte, 513), 100, api.ErrArg)
			is(t, "P901: Done of "+what, b.Done(key(n, 0)), api.ErrArg)
			hasNot(t, "P901: "+what, b, key(n, 0))
			stands(t, "P901: "+what, b, n, 0, nil)
		}
		has(t, "P901: "+what, b)
		over(t, b, 0)
		over(t, b, top)
		streams(t, "P901: "+what, b)
	}
}

func TestOpenOfNoTable(t *testing.T) {
	for what, tb := range map[string]*table.Table{"nil": nil, "made by nobody": new(table.Table)} {
		if b, e := backlog.Open(tb); b != nil || e != api.ErrArg {
			t.Errorf("P902: Open of a table that is %s = %v, %d", what, b, e)
		}
	}
}

func TestOpenOfAnEmptyTable(t *testing.T) {
	_, tb, b := fresh(t)
	for n := -1; n <= 8; n++ {
		stands(t, "P902: an empty table", b, n, 0, nil)
		hasNot(t, "P902: an empty table", b, key(n, 0))
	}
	has(t, "P902: an empty table", b)
	over(t, b, top)
	streams(t, "P902: an empty table", b)
	if tb.Unflushed() != 0 || tb.Len() != 0 {
		t.Errorf("P902: Open committed: Unflushed %d, Len %d", tb.Unflushed(), tb.Len())
	}
}

// A table whose disk has no power, or that has fallen: Open answers its error, also where the table is not in form; of a backlog that is open what needs a commit does.
func TestFallenTable(t *testing.T) {
	d, tb, b := begun(t, 0, 5)
	one := frame(0, 5, 0, 10, "a")
	takes(t, b, one, 0, true)
	d.Cut(0)
	is(t, "P4.5", d.Flush(), api.ErrPower)
	for _, what := range []string{"the power is gone", "the table has fallen"} {
		if other, e := backlog.Open(tb); other != nil || e != api.ErrPower {
			t.Errorf("P902: %s: Open = %v, %d", what, other, e)
		}
		is(t, "P903: Begin: "+what, b.Begin(4), api.ErrPower)
		is(t, "P903: Cease: "+what, b.Cease(5), api.ErrPower)
		refuses(t, what, b, 0, 6, 10, nil, 0, api.ErrPower)
		is(t, "P905: Done: "+what, b.Done(key(0, 0)), api.ErrPower)
		// The checks come ahead of the commit.
		is(t, "P903: "+what, b.Begin(0), api.ErrTwice)
		is(t, "P903: "+what, b.Begin(8), api.ErrArg)
		is(t, "P903: "+what, b.Cease(4), api.ErrStream)
		is(t, "P905: "+what, b.Done(key(0, 1)), api.ErrNone)
		refuses(t, what, b, 0, 6, 10, nil, 16, api.ErrExpired)
		has(t, "P904: "+what, b, one)
		stands(t, "P904: "+what, b, 0, 1, ref(at(5, 0)))
		stands(t, "P903: "+what, b, 4, 0, nil)
		streams(t, "P903: "+what, b, 0, 5)
	}
	d.Crash(nil)
	if other, e := backlog.Open(tb); other != nil || e != api.ErrPower {
		t.Errorf("P902: a table that has fallen for good: Open = %v, %d", other, e)
	}
}

func TestErrorOfTheTableComesFirst(t *testing.T) {
	d, tb, _ := fresh(t)
	is(t, "P6.3", tb.Commit(table.Change{Key: []byte("b")}), api.OK)
	if b, e := backlog.Open(tb); b != nil || e != api.ErrTable {
		t.Errorf("P902: Open = %v, %d", b, e)
	}
	d.Cut(0)
	d.Flush()
	if b, e := backlog.Open(tb); b != nil || e != api.ErrPower {
		t.Errorf("P902: Open without power = %v, %d", b, e)
	}
}

func TestStreams(t *testing.T) {
	_, tb, b := fresh(t)
	for _, n := range []int{math.MinInt, -1, 8, 256, 1 << 40, math.MaxInt} {
		is(t, "P903: Begin of no stream", b.Begin(n), api.ErrArg)
		is(t, "P903: Cease of no stream", b.Cease(n), api.ErrArg)
		stands(t, "P906: no stream", b, n, 0, nil)
	}
	is(t, "P903: Cease of one that is not open", b.Cease(3), api.ErrStream)
	lies(t, "P903: what was refused", tb)
	for _, n := range []int{7, 0, 3} {
		is(t, "P903: Begin", b.Begin(n), api.OK)
	}
	streams(t, "P906: rising", b, 0, 3, 7)
	lies(t, "P903", tb, "b\x00\x00=\x01\x00", "b\x00\x03=\x01\x00", "b\x00\x07=\x01\x00")
	is(t, "P903: Cease", b.Cease(3), api.OK)
	lies(t, "P903: the key stays", tb, "b\x00\x00=\x01\x00", "b\x00\x03=\x00\x00", "b\x00\x07=\x01\x00")
	streams(t, "P906", b, 0, 7)
	streams(t, "P902", open(t, tb), 0, 7)
	stands(t, "P903", b, 3, 0, nil)
	is(t, "P903: Cease again", b.Cease(3), api.ErrStream)
	is(t, "P903: Begin again", b.Begin(7), api.ErrTwice)
	is(t, "P903: Begin anew", b.Begin(3), api.OK)
	streams(t, "P906", b, 0, 3, 7)
	if tb.Unflushed() != 5 {
		t.Errorf("P903: %d commits, want 5", tb.Unflushed())
	}
}

// What is known of a stream stays as it was when it is opened and closed, and when all its frames are gone.
func TestNumbersGoOn(t *testing.T) {
	_, tb, b := begun(t, 3)
	takes(t, b, frame(3, 9, 0, 5, "a"), 0, true)
	takes(t, b, frame(3, 7, 1, 5, "b"), 0, false)
	is(t, "P903", b.Cease(3), api.OK)
	lies(t, "P903: the rest as it was", tb, "b\x00\x03=\x00\x02\x09\x00", "b\x01\x03\x00=\x01\x09\x05\x01a", "b\x01\x03\x01=\x02\x07\x05\x01b")
	stands(t, "P903", b, 3, 2, ref(at(9, 0)))
	is(t, "P905: of a stream that is not open", b.Done(key(3, 0)), api.OK)
	is(t, "P905", b.Done(key(3, 1)), api.OK)
	lies(t, "P905: the stream's key stays", tb, "b\x00\x03=\x00\x02\x09\x00")
	stands(t, "P907", b, 3, 2, ref(at(9, 0)))
	b = open(t, tb)
	stands(t, "P907: opened anew", b, 3, 2, ref(at(9, 0)))
	is(t, "P903", b.Begin(3), api.OK)
	lies(t, "P903: the rest as it was", tb, "b\x00\x03=\x01\x02\x09\x00")
	takes(t, b, frame(3, 8, 2, 5, "c"), 0, false)
	lies(t, "P904: the first place again", tb, "b\x00\x03=\x01\x03\x09\x00", "b\x01\x03\x02=\x01\x08\x05\x01c")
	takes(t, b, frame(3, 9, 3, 5, "d"), 0, true)
	stands(t, "P907", b, 3, 4, ref(at(9, 3)))
}

// The checks of Put in their order: each input has all faults from the one that is asked for on.
func TestOrderOfChecks(t *testing.T) {
	_, tb, b := fresh(t)
	big := make([]byte, 513)
	for _, n := range []int{math.MinInt, -1, 8, 256, math.MaxInt} {
		refuses(t, "no stream", b, n, 10, 5, big, 100, api.ErrArg)
	}
	refuses(t, "a time above, not open", b, 0, 1<<48, 5, big, 100, api.ErrArg)
	refuses(t, "a life above, not open", b, 0, 10, 1<<48, big, 100, api.ErrArg)
	refuses(t, "not open", b, 0, 10, 5, big, 100, api.ErrStream)
	is(t, "P903", b.Begin(0), api.OK)
	refuses(t, "a time above", b, 0, 1<<48, 5, big, 100, api.ErrArg)
	refuses(t, "the greatest time", b, 0, top, 1, nil, 0, api.ErrArg)
	refuses(t, "a life above", b, 0, 10, 1<<48, big, 100, api.ErrArg)
	refuses(t, "a life that wraps round", b, 0, 10, top-5, nil, 100, api.ErrArg)
	refuses(t, "too many bytes", b, 0, 10, 5, big, 100, api.ErrSize)
	refuses(t, "far too many bytes", b, 0, 10, 5, make([]byte, 1<<20), 100, api.ErrSize)
	refuses(t, "its life is over", b, 0, 10, 5, big[:512], 100, api.ErrExpired)
	lies(t, "P910: what was refused", tb, "b\x00\x00=\x01\x00")
	stands(t, "P910: what was refused", b, 0, 0, nil)
	for n := range uint64(64) {
		takes(t, b, frame(0, 10, n, 5, "a"), 14, true)
	}
	refuses(t, "no stream, full", b, 8, 10, 5, big, 100, api.ErrArg)
	refuses(t, "not open, full", b, 1, 10, 5, big, 100, api.ErrStream)
	refuses(t, "too many bytes, full", b, 0, 10, 5, big, 100, api.ErrSize)
	refuses(t, "its life is over, full", b, 0, 10, 5, nil, 15, api.ErrExpired)
	refuses(t, "full", b, 0, 10, 5, nil, 14, api.ErrFull)
}

func TestLife(t *testing.T) {
	_, _, b := begun(t, 2)
	takes(t, b, frame(2, 100, 0, 0, ""), 99, true)
	refuses(t, "over at its time", b, 2, 100, 0, nil, 100, api.ErrExpired)
	refuses(t, "and from then on", b, 2, 100, 0, nil, top, api.ErrExpired)
	refuses(t, "over", b, 2, 100, 1, nil, 101, api.ErrExpired)
	takes(t, b, frame(2, 100, 1, 1, ""), 100, true)
	refuses(t, "over at MaxNumber", b, 2, 1<<48-1, 0, nil, top, api.ErrExpired)
	refuses(t, "over at MaxNumber", b, 2, 1<<48-1, 0, nil, 1<<48-1, api.ErrExpired)
	takes(t, b, frame(2, 1<<48-1, 2, 1, ""), top, true) // over at 2^48, to which no time comes
	takes(t, b, frame(2, 1<<48-1, 3, 1<<48-1, ""), 1<<48, true)
	takes(t, b, frame(2, 0, 4, 1<<48-1, ""), 1<<48-2, false)
	refuses(t, "over at MaxNumber", b, 2, 0, 1<<48-1, nil, 1<<48-1, api.ErrExpired)
	refuses(t, "time 0, life 0", b, 2, 0, 0, nil, 0, api.ErrExpired)
	over(t, b, 0)
	over(t, b, 99)
	over(t, b, 100, key(2, 0))
	over(t, b, 101, key(2, 0), key(2, 1))
	over(t, b, 1<<48-2, key(2, 0), key(2, 1))
	over(t, b, 1<<48-1, key(2, 0), key(2, 1), key(2, 4))
	over(t, b, 1<<48, key(2, 0), key(2, 1), key(2, 4))
	over(t, b, 1<<49, key(2, 0), key(2, 1), key(2, 4))
	over(t, b, top, key(2, 0), key(2, 1), key(2, 4))
}

// Newest: by the time, then by the number, of each stream for itself.
func TestNewest(t *testing.T) {
	_, _, b := begun(t, 0, 1)
	takes(t, b, frame(0, 0, 0, 5, ""), 0, true) // the stamp of zeros is one
	stands(t, "P906", b, 0, 1, ref(at(0, 0)))
	stands(t, "P906: another stream", b, 1, 0, nil)
	takes(t, b, frame(0, 0, 1, 5, ""), 0, true)
	takes(t, b, frame(0, 9, 2, 5, ""), 0, true)
	takes(t, b, frame(1, 3, 0, 5, ""), 0, true)
	takes(t, b, frame(0, 8, 3, 5, ""), 0, false)
	stands(t, "P904: the greater one", b, 0, 4, ref(at(9, 2)))
	takes(t, b, frame(0, 9, 4, 5, ""), 0, true)
	stands(t, "P904", b, 0, 5, ref(at(9, 4)))
	takes(t, b, frame(1, 2, 1, 5, ""), 0, false)
	stands(t, "P904", b, 1, 2, ref(at(3, 0)))
	is(t, "P905: the newest one is gone", b.Done(key(0, 4)), api.OK)
	stands(t, "P907: its stamp stays", b, 0, 5, ref(at(9, 4)))
	takes(t, b, frame(0, 8, 5, 5, ""), 0, false)
	takes(t, b, frame(0, 1<<48-1, 6, 5, ""), 0, true)
	takes(t, b, frame(0, 1<<48-1, 7, 5, ""), 0, true)
}

// The order is that of the Puts, over all streams: not that of keys, nor of stamps.
func TestOrder(t *testing.T) {
	_, tb, b := begun(t, 0, 3, 7)
	all := []api.Frame{frame(7, 50, 0, 9, "a"), frame(0, 40, 0, 8, "b"), frame(3, 60, 0, 7, "c"), frame(0, 10, 1, 60, "d"), frame(7, 5, 1, 60, "e")}
	newest := []bool{true, true, true, false, false}
	for i, f := range all {
		takes(t, b, f, 0, newest[i])
	}
	has(t, "P908", b, all...)
	has(t, "P908: opened anew", open(t, tb), all...)
	over(t, b, 65, key(7, 0), key(0, 0), key(7, 1))
	is(t, "P905", b.Done(key(0, 0)), api.OK)
	has(t, "P908", b, all[0], all[2], all[3], all[4])
	last := frame(0, 41, 2, 9, "f")
	takes(t, b, last, 0, true)
	has(t, "P908", b, all[0], all[2], all[3], all[4], last)
	is(t, "P905: the last one", b.Done(key(0, 2)), api.OK)
	again := frame(3, 1, 1, 9, "g")
	takes(t, b, again, 0, false)
	has(t, "P908: its place is given again", b, all[0], all[2], all[3], all[4], again)
	has(t, "P908: opened anew", open(t, tb), all[0], all[2], all[3], all[4], again)
}

// Numbers of more than one byte: keys are not ordered as their numbers are.
func TestManyNumbers(t *testing.T) {
	_, tb, b := begun(t, 1)
	var there []api.Frame
	for n := range uint64(400) {
		f := frame(1, n, n, 1000, fmt.Sprint(n))
		takes(t, b, f, 0, true)
		there = append(there, f)
		if n >= 5 {
			is(t, "P905", b.Done(key(1, n-5)), api.OK)
			there = there[1:]
		}
		has(t, "P908", b, there...)
	}
	b = open(t, tb)
	has(t, "P908: opened anew", b, there...)
	stands(t, "P907", b, 1, 400, ref(at(399, 399)))
}

func TestDone(t *testing.T) {
	_, tb, b := begun(t, 3)
	for _, k := range []api.Key{{}, key(3, 0), key(-1, 0), key(8, 0), key(math.MinInt, top), key(3, top)} {
		is(t, "P905: none is there", b.Done(k), api.ErrNone)
		hasNot(t, "P906: none is there", b, k)
	}
	one := frame(3, 5, 0, 9, "a")
	takes(t, b, one, 0, true)
	for _, k := range []api.Key{key(3, 1), key(2, 0), key(3+256, 0), key(-253, 0), key(3, 1<<48), key(3, 1<<63)} {
		is(t, "P905: another key", b.Done(k), api.ErrNone)
		hasNot(t, "P906: another key", b, k)
	}
	has(t, "P905: what was refused", b, one)
	commits := tb.Unflushed()
	is(t, "P905", b.Done(key(3, 0)), api.OK)
	if tb.Unflushed() != commits+1 {
		t.Errorf("P905: %d commits", tb.Unflushed()-commits)
	}
	has(t, "P905", b)
	hasNot(t, "P905", b, key(3, 0))
	lies(t, "P905", tb, "b\x00\x03=\x01\x01\x05\x00")
	is(t, "P905: again", b.Done(key(3, 0)), api.ErrNone)
}

// MaxPending frames of all streams together; one that is done with makes room for one.
func TestFull(t *testing.T) {
	_, tb, b := begun(t, 0, 1, 2, 3, 4, 5, 6, 7)
	var there []api.Frame
	for n := range 64 {
		f := frame(n%8, 5, uint64(n/8), 9, "ab")
		takes(t, b, f, 0, true)
		there = append(there, f)
	}
	has(t, "P910: 64", b, there...)
	live, commits := tb.Live(), tb.Unflushed()
	for n := range 8 {
		refuses(t, "64 are there", b, n, 5, 9, nil, 0, api.ErrFull)
	}
	if tb.Live() != live || tb.Unflushed() != commits {
		t.Error("P910: a refused Put changed the table")
	}
	stands(t, "P910: a refused Put", b, 0, 8, ref(at(5, 7)))
	has(t, "P910: a refused Put", b, there...)
	has(t, "P902: 64 are in form", open(t, tb), there...)
	is(t, "P905", b.Done(key(3, 2)), api.OK)
	there = slices.DeleteFunc(there, func(f api.Frame) bool { return f.Stream == 3 && f.Stamp.Seq == 2 })
	last := frame(6, 6, 8, 9, "")
	takes(t, b, last, 0, true)
	has(t, "P910", b, append(there, last)...)
	refuses(t, "64 are there again", b, 6, 6, 9, nil, 0, api.ErrFull)
}

// The greatest frames, all of them, fit where there is room.
func TestGreatFrames(t *testing.T) {
	tb := openTable(t, formatted(t, 1200))
	b := open(t, tb)
	is(t, "P903", b.Begin(7), api.OK)
	var there []api.Frame
	for n := range uint64(64) {
		f := frame(7, 1<<48-1, n, 1<<48-1, strings.Repeat(string(rune('0'+n)), 512))
		takes(t, b, f, top, true)
		there = append(there, f)
	}
	has(t, "P904", b, there...)
	has(t, "P902", open(t, tb), there...)
	over(t, b, top)
}

// What has no room in the table is refused, and nothing has changed; what is done with makes room.
func TestRoom(t *testing.T) {
	tb := openTable(t, formatted(t, 85))
	b := open(t, tb)
	is(t, "P903", b.Begin(3), api.OK)
	var there []api.Frame
	for n := range uint64(65) {
		f := frame(3, 10, n, 50, "0123456789")
		_, newest, e := b.Put(3, 10, 50, f.Data, 0)
		if e == api.ErrFull {
			break
		}
		if e != api.OK || !newest {
			t.Fatalf("P904: %v, %d", newest, e)
		}
		there = append(there, f)
	}
	n := uint64(len(there))
	if n == 0 || n >= 64 {
		t.Fatalf("P904: %d frames have room", n)
	}
	refuses(t, "no room", b, 3, 11, 50, make([]byte, 10), 0, api.ErrFull)
	has(t, "P910: ErrFull", b, there...)
	stands(t, "P910: ErrFull", b, 3, n, ref(at(10, n-1)))
	has(t, "P910: ErrFull", open(t, tb), there...)
	// Somebody else's pair leaves 6 bytes: a stream's pair has 7.
	is(t, "P6.3", tb.Commit(table.Change{Key: []byte("z"), Value: make([]byte, tb.Room()-9)}), api.OK)
	is(t, "P903: a key has no room", b.Begin(4), api.ErrFull)
	streams(t, "P903: ErrFull", b, 3)
	is(t, "P905: that makes the table smaller", b.Done(key(3, 0)), api.OK)
	has(t, "P905", b, there[1:]...)
	is(t, "P903: it has", b.Begin(4), api.OK)
	is(t, "P903: no greater", b.Cease(4), api.OK)
	streams(t, "P903", b, 3)
}

// Other keys are none of the backlog's business.
func TestOtherKeys(t *testing.T) {
	d := formatted(t, 400)
	tb := openTable(t, d)
	others := []string{"\x00=a", "a=", "a\xff\xff=x", "c=y", "c\x00\x09=z", "\xff=e"}
	for _, p := range others {
		k, v, _ := strings.Cut(p, "=")
		is(t, "P6.3", tb.Commit(table.Change{Key: []byte(k), Value: []byte(v)}), api.OK)
	}
	b := open(t, tb)
	is(t, "P903", b.Begin(3), api.OK)
	takes(t, b, frame(3, 5, 0, 9, "a"), 0, true)
	takes(t, b, frame(3, 5, 1, 9, "b"), 0, true)
	is(t, "P905", b.Done(key(3, 0)), api.OK)
	is(t, "P905", b.Done(key(3, 1)), api.OK)
	is(t, "P903", b.Cease(3), api.OK)
	lies(t, "P902: other keys", tb, "\x00=a", "a=", "a\xff\xff=x", "b\x00\x03=\x00\x02\x05\x01", "c=y", "c\x00\x09=z", "\xff=e")
}

// A second backlog over the table, opened behind changes, is what the table says.
func TestSecondBacklog(t *testing.T) {
	_, tb, b := begun(t, 3)
	takes(t, b, frame(3, 5, 0, 9, "a"), 0, true)
	other := open(t, tb)
	has(t, "P902", other, frame(3, 5, 0, 9, "a"))
	is(t, "P905", other.Done(key(3, 0)), api.OK)
	third := open(t, tb)
	has(t, "P902", third)
	stands(t, "P902", third, 3, 1, ref(at(5, 0)))
	is(t, "P6.3", tb.Commit(table.Change{Key: []byte("b\x00\x04"), Value: []byte("\x01\x07\x09\x02")}), api.OK)
	fourth := open(t, tb)
	streams(t, "P902: somebody else's commit", fourth, 3, 4)
	takes(t, fourth, frame(4, 9, 7, 1, ""), 0, true)
}
