package streamdb_test

import (
	"bytes"
	"iter"
	"runtime"
	"slices"
	"testing"

	"halyard/api"
	"halyard/streamdb"
)

// spoil: writes over all that a list can reach.
func spoil(b []byte) {
	b = b[:cap(b)]
	for i := range b {
		b[i] = 0x5a
	}
}

// withThree: a database with three frames of stream 3.
func withThree(t *testing.T) (db *streamdb.DB, frames []api.Frame) {
	t.Helper()
	_, _, db = fresh(t)
	is(t, "P803", db.Listen(3, quota(9, 100)), api.OK)
	frames = []api.Frame{frame(100, 1, "abc"), frame(100, 2, "defg"), frame(101, 1, "hi")}
	for _, f := range frames {
		inserts(t, db, f, 100, false, false, api.OK)
	}
	return db, frames
}

func TestDataIsNotChangedAndNotKept(t *testing.T) {
	_, tb, db := fresh(t)
	is(t, "P803", db.Listen(3, quota(9, 100)), api.OK)
	room := bytes.Repeat([]byte{0xa5}, 40)
	copy(room, "abc")
	f := frame(100, 1, "")
	f.Data = room[:3]
	inserts(t, db, f, 100, true, true, api.OK)
	if string(room[:3]) != "abc" || !bytes.Equal(room[3:], bytes.Repeat([]byte{0xa5}, 37)) {
		t.Error("P1: Insert changed the data, or the room behind them")
	}
	spoil(f.Data)
	has(t, "P1: Insert keeps the data", db, 3, frame(100, 1, "abc"))
	has(t, "P1: the table keeps the data", openDB(t, tb), 3, frame(100, 1, "abc"))
}

func TestAnswersAreNewMemory(t *testing.T) {
	db, frames := withThree(t)
	for range 2 {
		a, _ := db.Least(3, api.Stamp{})
		b, _ := db.Least(3, api.Stamp{})
		spoil(a.Data)
		if string(b.Data) != "abc" {
			t.Error("P1: two answers of Least share memory")
		}
		a, _ = db.Greatest(3, at(top, top))
		b, _ = db.Greatest(3, at(top, top))
		spoil(a.Data)
		if string(b.Data) != "hi" {
			t.Error("P1: two answers of Greatest share memory")
		}
		for f := range db.Frames(3) {
			spoil(f.Data)
		}
		has(t, "P1: answers share memory with the database", db, 3, frames...)
	}
	// Nor do those of one ranging with one another, or with the room behind them.
	all := slices.Collect(db.Frames(3))
	for i := range all {
		spoil(all[i].Data)
		for j := i + 1; j < len(all); j++ {
			if !same(all[j], frames[j]) {
				t.Errorf("P1: frames %d and %d share memory", i, j)
			}
		}
	}
	q, _ := db.Quota(3)
	q.Count = 1
	if q, _ := db.Quota(3); q != quota(9, 100) {
		t.Error("P1: Quota shares memory")
	}
}

// What a ranging tells is what there was when it began; the next one tells what there is then.
func TestChangedWhileRanging(t *testing.T) {
	changes := map[string]func(db *streamdb.DB){
		"another frame":  func(db *streamdb.DB) { db.Insert(frame(100, 9, "new"), 100, true) },
		"one at the end": func(db *streamdb.DB) { db.Insert(frame(999, 9, "new"), 100, true) },
		"one that rolls": func(db *streamdb.DB) { db.Insert(frame(999, 9, string(make([]byte, 100))), 100, true) },
		"swept":          func(db *streamdb.DB) { db.Sweep(150) },
		"all swept":      func(db *streamdb.DB) { db.Sweep(500) },
		"nobody listens": func(db *streamdb.DB) { db.Unlisten(3) },
		"others are there": func(db *streamdb.DB) {
			db.Unlisten(3)
			db.Listen(3, quota(1, 9))
			db.Insert(frame(100, 1, "other"), 100, true)
		},
		"ranged over again": func(db *streamdb.DB) {
			for range db.Frames(3) {
			}
		},
	}
	for what, change := range changes {
		for when := range 3 {
			db, frames := withThree(t)
			var got []api.Frame
			each := db.Frames(3)
			for f := range each {
				if len(got) == when {
					change(db)
				}
				got = append(got, f)
			}
			if !slices.EqualFunc(got, frames, same) {
				t.Errorf("P1: %s while it is ranged over: %v", what, got)
			}
			if again := slices.Collect(each); !slices.EqualFunc(again, slices.Collect(db.Frames(3)), same) {
				t.Errorf("P1: %s: the next ranging tells %v", what, again)
			}
		}
	}
}

// One iterator, ranged over as the stream goes through its states.
func TestRangedOverAgain(t *testing.T) {
	_, _, db := fresh(t)
	each := db.Frames(3)
	tells := func(what string, want ...api.Frame) {
		t.Helper()
		if got := slices.Collect(each); !slices.EqualFunc(got, want, same) {
			t.Errorf("P806: %s: %v, want %v", what, got, want)
		}
	}
	tells("nobody listens")
	db.Listen(3, quota(2, 9))
	tells("listened to")
	a, b, c := frame(100, 1, "a"), frame(100, 2, "b"), frame(100, 3, "c")
	inserts(t, db, b, 100, true, true, api.OK)
	tells("one", b)
	inserts(t, db, a, 100, true, false, api.OK)
	tells("two", a, b)
	inserts(t, db, c, 100, true, true, api.OK)
	tells("rolled out", b, c)
	db.Unlisten(3)
	tells("nobody listens")
	db.Listen(3, quota(2, 9))
	inserts(t, db, c, 100, true, false, api.OK)
	tells("again", c)
}

// Rangings of several streams, side by side.
func TestRangingsSideBySide(t *testing.T) {
	db, frames := withThree(t)
	next, stop := iter.Pull(db.Frames(3))
	defer stop()
	other, end := iter.Pull(db.Frames(3))
	defer end()
	first, _ := next()
	db.Sweep(150)
	second, _ := other()
	third, _ := next()
	if !same(first, frames[0]) || !same(second, frames[2]) || !same(third, frames[1]) {
		t.Errorf("P806: side by side: %v, %v, %v", first.Stamp, second.Stamp, third.Stamp)
	}
}

func TestDatabasesStandApart(t *testing.T) {
	a, frames := withThree(t)
	b, _ := withThree(t)
	a.Unlisten(3)
	a.Listen(4, quota(1, 1))
	has(t, "P1: two databases share memory", b, 3, frames...)
	zeros(t, "P1", b, 4)
}

// What has gone is not kept: as many bytes as a quota's are there, not as many as ever were.
func TestKeepsNoMore(t *testing.T) {
	_, _, db := fresh(t)
	is(t, "P803", db.Listen(3, quota(8, 4096)), api.OK)
	heap := func() int {
		runtime.GC()
		runtime.GC()
		var m runtime.MemStats
		runtime.ReadMemStats(&m)
		return int(m.HeapAlloc)
	}
	run := func(from, to uint64) {
		for n := from; n < to; n++ {
			inserts(t, db, frame(100, n, string(make([]byte, 500))), 100, true, true, api.OK)
			if n%100 == 99 {
				db.Sweep(200)
			}
		}
	}
	run(0, 500)
	was := heap()
	run(500, 8500)
	if grown := heap() - was; grown > 1<<20 {
		t.Errorf("P1: %d bytes more are kept behind 8000 frames that went", grown)
	}
	runtime.KeepAlive(db)
}
