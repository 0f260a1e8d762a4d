package playback_test

import (
	"fmt"
	"math/rand"
	"runtime"
	"slices"
	"strings"
	"testing"
	"time"

	"halyard/api"
	"halyard/disk"
	"halyard/playback"
	"halyard/streamdb"
	"halyard/table"
)

// spoil: a list and the room behind it are written over.
func spoil(b []byte) {
	b = b[:cap(b)]
	for i := range b {
		b[i] ^= 0xff
	}
}

// TestFramesAreNewMemory: what is done to a frame's data changes nothing of the database, and no other answer.
func TestFramesAreNewMemory(t *testing.T) {
	stamps := []api.Stamp{at(5, 4), at(6, 3), at(7, 2)}
	db, p := with(t, stamps...)
	q := player(t, db)
	opens(t, p, 0, 1)
	opens(t, p, 0, 2)
	opens(t, q, 0, 1)
	for range 3 {
		lands(t, "Seek", seek(p, 6), 1, stamps[1])
		for _, m := range []move{p.Prev, p.Next, seek(p, 6)} {
			f, _ := m(1)
			g, _ := p.Seek(2, f.Stamp.Time)
			h, _ := q.Seek(1, f.Stamp.Time)
			spoil(f.Data)
			if !same(g, framed(0, f.Stamp)) || !same(h, framed(0, f.Stamp)) {
				t.Errorf("P1801: two answers share memory: %v, %v", g, h)
			}
			spoil(g.Data)
		}
	}
	for _, s := range stamps {
		lands(t, "Seek", seek(p, s.Time), 1, s)
	}
	for i, f := range slices.Collect(db.Frames(0)) {
		if !same(f, framed(0, stamps[i])) {
			t.Errorf("P1801: the database's frame is %v, want %v", f, framed(0, stamps[i]))
		}
	}
}

// TestAFrameStays: an answer is not changed by what happens to the database, or to the player, later.
func TestAFrameStays(t *testing.T) {
	db, p := with(t, at(5, 4), at(6, 3))
	opens(t, p, 0, 1)
	f, _ := p.Next(1)
	l, _ := p.Gaps(0, 0, top)
	open := p.Cursors()
	db.Unlisten(0)
	listens(t, db, 0)
	put(t, db, 0, at(5, 9), at(6, 3), at(6, 1))
	opens(t, p, 0, 2)
	p.Next(1)
	p.Gaps(0, 0, top)
	if !same(f, framed(0, at(5, 4))) || len(l) != 0 || !slices.Equal(open, []int{1}) {
		t.Errorf("P1801: answers have become %v, %v, %v", f, l, open)
	}
}

func TestListsAreNewMemory(t *testing.T) {
	_, p := with(t, at(5, 1), at(6, 3), at(7, 5), at(8, 7))
	for n := range 3 {
		opens(t, p, 0, n+1)
	}
	for range 2 {
		a, b := p.Cursors(), p.Cursors()
		clear(a[:cap(a)])
		if !slices.Equal(b, []int{1, 2, 3}) {
			t.Errorf("P1801: two answers of Cursors share memory: %v", b)
		}
		cursors(t, p, 1, 2, 3)
		l, _ := p.Gaps(0, 0, top)
		m, _ := p.Gaps(0, 0, top)
		clear(l[:cap(l)])
		if !slices.Equal(m, gap(2, 2, 4, 4, 6, 6)) {
			t.Errorf("P1801: two answers of Gaps share memory: %v", m)
		}
		gaps(t, p, 0, 0, top, 2, 2, 4, 4, 6, 6)
	}
}

// tells: all that can be asked of a disk, a table and a database.
func tells(d *disk.Disk, tb *table.Table, db *streamdb.DB) string {
	var b strings.Builder
	sectors, versions := d.Dirty()
	fmt.Fprintln(&b, sectors, versions, tb.Live(), tb.Room(), tb.Unflushed(), tb.Epoch())
	for k, v := range tb.Walk(nil, nil) {
		fmt.Fprintf(&b, "%x=%x\n", k, v)
	}
	for s := range 8 {
		q, heard := db.Quota(s)
		high, shown := db.High(s)
		floor, rolled := db.Floor(s)
		fmt.Fprintln(&b, q, heard, high, shown, floor, rolled, slices.Collect(db.Frames(s)))
	}
	return b.String()
}

// TestDatabaseIsNotChanged: whatever is called of a player, its database, table and disk stay as they were.
func TestDatabaseIsNotChanged(t *testing.T) {
	d, tb, db, p := fresh(t)
	listens(t, db, 0)
	if e := db.Listen(1, api.Quota{Count: 2, Bytes: 9}); e != api.OK {
		t.Fatal(e)
	}
	put(t, db, 0, at(5, 4), at(6, 3), at(7, 2))
	put(t, db, 1, at(5, 4), at(6, 3), at(7, 2))
	before := tells(d, tb, db)
	c := &chance{rand.New(rand.NewSource(1)), 2, 9, 9, false}
	x := &pair{t, db, p, &plain{db, map[int]*plainCursor{}}}
	for range 3000 {
		if next := c.call(); !slices.Contains([]string{"come", "sweep", "listen", "unlisten"}, next.name) {
			x.do(next)
		}
	}
	if after := tells(d, tb, db); after != before {
		t.Errorf("P1801: the database was\n%s, now it is\n%s", before, after)
	}
}

// TestCursorsAreThePlayersAlone: nothing of them lies in the table: a player over the database that is opened anew has none. A database whose table has fallen can be gone over as before.
func TestCursorsAreThePlayersAlone(t *testing.T) {
	d, tb, db, p := fresh(t)
	listens(t, db, 0)
	put(t, db, 0, at(5, 1), at(6, 2), at(7, 5))
	opens(t, p, 0, 1)
	lands(t, "Next", p.Next, 1, at(5, 1))
	is(t, "P6.3: Flush", tb.Flush(), api.OK)
	d.Cut(0)
	if _, e := db.Insert(framed(0, at(8, 1)), 0, false); e != api.ErrPower {
		t.Fatalf("P801: Insert without power: %d", e)
	}
	lands(t, "Next", p.Next, 1, at(6, 2))
	lands(t, "Seek", seek(p, 7), 1, at(7, 5))
	lands(t, "Prev", p.Prev, 1, at(6, 2))
	gaps(t, p, 0, 0, top, 3, 4)
	opens(t, p, 0, 2)
	is(t, "P1803: Close", p.Close(2), api.OK)

	d.Crash(nil)
	tb, e := table.Open(d, 0, 400)
	is(t, "P6.2: Open", e, api.OK)
	db, e = streamdb.Open(tb)
	is(t, "P802: Open", e, api.OK)
	q := player(t, db)
	cursors(t, q)
	fails(t, "Next", q.Next, 1, api.ErrCursor)
	opens(t, q, 0, 1)
	lands(t, "Next", q.Next, 1, at(5, 1))
	lands(t, "Next of the one before", p.Next, 1, at(7, 5))
}

// TestGoroutinesEnd: none is left behind, whatever was asked.
func TestGoroutinesEnd(t *testing.T) {
	_, p := with(t, at(5, 1), at(6, 3), at(7, 5), at(8, 7))
	before := runtime.NumGoroutine()
	for n := range 5000 {
		p.Gaps(n%10-1, uint64(n%9), uint64(n%11))
	}
	var none *playback.Player
	none.Gaps(0, 0, top)
	for wait := 0; runtime.NumGoroutine() > before; wait++ {
		if wait == 1000 {
			t.Fatalf("P1805: %d goroutines more than before", runtime.NumGoroutine()-before)
		}
		time.Sleep(time.Millisecond)
	}
}

func heap() int {
	runtime.GC()
	runtime.GC()
	var m runtime.MemStats
	runtime.ReadMemStats(&m)
	return int(m.HeapAlloc)
}

// TestLittleIsKept: of what was answered, and of cursors that were closed, nothing is kept.
func TestLittleIsKept(t *testing.T) {
	_, p := with(t, at(5, 1), at(6, 3), at(7, 5), at(8, 7))
	run := func() {
		for range 20000 {
			n, _ := p.Open(0)
			p.Next(n)
			p.Seek(n, 7)
			p.Gaps(0, 0, top)
			p.Close(n)
		}
	}
	run()
	before := heap()
	run()
	if grown := heap() - before; grown > 1<<17 {
		t.Errorf("P1801: %d bytes are kept", grown)
	}
	runtime.KeepAlive(p)
}
