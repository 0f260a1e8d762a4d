package playback_test

import (
	"math"
	"slices"
	"testing"

	"halyard/api"
	"halyard/disk"
	"halyard/playback"
	"halyard/streamdb"
	"halyard/table"
)

const (
	top  = math.MaxUint64
	most = 1<<48 - 1
)

// fresh: a database on a disk and a table of its own, and a player over it.
func fresh(t *testing.T) (*disk.Disk, *table.Table, *streamdb.DB, *playback.Player) {
	t.Helper()
	d, _ := disk.New(400)
	if e := table.Format(d, 0, 400); e != api.OK {
		t.Fatalf("P6.1: Format: %d", e)
	}
	tb, e := table.Open(d, 0, 400)
	if e != api.OK {
		t.Fatalf("P6.2: Open: %d", e)
	}
	db, e := streamdb.Open(tb)
	if e != api.OK {
		t.Fatalf("P802: Open: %d", e)
	}
	return d, tb, db, player(t, db)
}

func player(t *testing.T, db *streamdb.DB) *playback.Player {
	t.Helper()
	p, e := playback.New(db)
	if p == nil || e != api.OK {
		t.Fatalf("P1802: New = %v, %d", p, e)
	}
	return p
}

// with: a database whose streams are listened to, stream 0 with frames of these stamps, and a player over it.
func with(t *testing.T, stamps ...api.Stamp) (*streamdb.DB, *playback.Player) {
	t.Helper()
	_, _, db, p := fresh(t)
	for stream := range api.MaxStreams {
		listens(t, db, stream)
	}
	put(t, db, 0, stamps...)
	return db, p
}

func listens(t *testing.T, db *streamdb.DB, stream int) {
	t.Helper()
	if e := db.Listen(stream, api.Quota{Count: api.MaxCount, Bytes: api.MaxBytes}); e != api.OK {
		t.Fatalf("P803: Listen(%d): %d", stream, e)
	}
}

// put: frames of a stream come, each as framed tells it.
func put(t *testing.T, db *streamdb.DB, stream int, stamps ...api.Stamp) {
	t.Helper()
	for _, s := range stamps {
		if _, e := db.Insert(framed(stream, s), 0, false); e != api.OK {
			t.Fatalf("P804: Insert(%d %v): %d", stream, s, e)
		}
	}
}

// goes: the frames of a stream that are swept at that time go.
func goes(t *testing.T, db *streamdb.DB, now uint64, want int) {
	t.Helper()
	if n, e := db.Sweep(now); n != want || e != api.OK {
		t.Fatalf("P805: Sweep(%d) = %d, %d, want %d", now, n, e, want)
	}
}

// framed: the frame of a stamp: its life is over by itself at an own time, and its data are its own.
func framed(stream int, s api.Stamp) api.Frame {
	f := api.Frame{Stream: stream, Stamp: s, Life: 1 + s.Seq%1000*1000}
	for n := s.Time; len(f.Data) < int(s.Seq%5); n >>= 8 {
		f.Data = append(f.Data, byte(n)+byte(stream))
	}
	return f
}

func at(time, seq uint64) api.Stamp { return api.Stamp{Time: time, Seq: seq} }

func same(a, b api.Frame) bool {
	return a.Stream == b.Stream && a.Stamp == b.Stamp && a.Life == b.Life && string(a.Data) == string(b.Data)
}

func none(f api.Frame) bool { return same(f, api.Frame{}) }

func is(t *testing.T, what string, got, want api.Errno) {
	t.Helper()
	if got != want {
		t.Errorf("%s: %d, want %d", what, got, want)
	}
}

func opens(t *testing.T, p *playback.Player, stream, want int) {
	t.Helper()
	if n, e := p.Open(stream); n != want || e != api.OK {
		t.Errorf("P1803: Open(%d) = %d, %d, want %d", stream, n, e, want)
	}
}

func opensNot(t *testing.T, p *playback.Player, stream int, want api.Errno) {
	t.Helper()
	if n, e := p.Open(stream); n != 0 || e != want {
		t.Errorf("P1803: Open(%d) = %d, %d, want %d", stream, n, e, want)
	}
}

func cursors(t *testing.T, p *playback.Player, want ...int) {
	t.Helper()
	if got := p.Cursors(); !slices.Equal(got, want) {
		t.Errorf("P1803: Cursors = %v, want %v", got, want)
	}
}

// move: Next, Prev, or Seek to a time, of a cursor.
type move func(cursor int) (api.Frame, api.Errno)

func seek(p *playback.Player, time uint64) move {
	return func(cursor int) (api.Frame, api.Errno) { return p.Seek(cursor, time) }
}

// lands: a cursor goes to the frame of stream 0 with that stamp.
func lands(t *testing.T, what string, m move, cursor int, s api.Stamp) {
	t.Helper()
	if f, e := m(cursor); e != api.OK || !same(f, framed(0, s)) {
		t.Errorf("P1804: %s(%d) = %v, %d, want %v", what, cursor, f, e, framed(0, s))
	}
}

func fails(t *testing.T, what string, m move, cursor int, want api.Errno) {
	t.Helper()
	if f, e := m(cursor); e != want || !none(f) {
		t.Errorf("P1804: %s(%d) = %v, %d, want %d", what, cursor, f, e, want)
	}
}

func gap(ends ...uint64) (out []api.Gap) {
	for i := 0; i < len(ends); i += 2 {
		out = append(out, api.Gap{From: ends[i], To: ends[i+1]})
	}
	return out
}

func gaps(t *testing.T, p *playback.Player, stream int, a, b uint64, want ...uint64) {
	t.Helper()
	if got, e := p.Gaps(stream, a, b); e != api.OK || !slices.Equal(got, gap(want...)) {
		t.Errorf("P1805: Gaps(%d, %d, %d) = %v, %d, want %v", stream, a, b, got, e, gap(want...))
	}
}

func four(t *testing.T) (*streamdb.DB, *playback.Player) {
	t.Helper()
	return with(t, at(5, 1), at(7, 2), at(7, 9), at(8, 4))
}

func TestExampleGoesAlong(t *testing.T) {
	_, p := four(t)
	opens(t, p, 0, 1)
	for _, s := range []api.Stamp{at(5, 1), at(7, 2), at(7, 9), at(8, 4)} {
		lands(t, "Next", p.Next, 1, s)
	}
	fails(t, "Next", p.Next, 1, api.ErrNone)
	lands(t, "Prev", p.Prev, 1, at(7, 9))
	is(t, "P1804: Rewind", p.Rewind(1), api.OK)
	fails(t, "Prev", p.Prev, 1, api.ErrNone)
	lands(t, "Next", p.Next, 1, at(5, 1))
}

func TestExampleSeeks(t *testing.T) {
	_, p := four(t)
	opens(t, p, 0, 1)
	lands(t, "Seek(6)", seek(p, 6), 1, at(7, 2))
	lands(t, "Seek(7)", seek(p, 7), 1, at(7, 2))
	fails(t, "Seek(9)", seek(p, 9), 1, api.ErrNone)
	lands(t, "Next: the place stayed", p.Next, 1, at(7, 9))
}

func TestExampleSwept(t *testing.T) {
	for _, next := range []bool{true, false} {
		db, p := with(t, at(5, 1), at(7, 9), at(8, 4))
		if _, e := db.Insert(api.Frame{Stamp: at(7, 2), Life: 3}, 0, false); e != api.OK {
			t.Fatal(e)
		}
		opens(t, p, 0, 1)
		if f, e := p.Seek(1, 7); e != api.OK || f.Stamp != at(7, 2) {
			t.Fatalf("P1804: Seek(7) = %v, %d", f, e)
		}
		goes(t, db, 10, 1)
		if next {
			lands(t, "Next", p.Next, 1, at(7, 9))
			lands(t, "Prev", p.Prev, 1, at(5, 1))
		} else {
			lands(t, "Prev", p.Prev, 1, at(5, 1))
			lands(t, "Next", p.Next, 1, at(7, 9))
		}
	}
}

func TestExampleGaps(t *testing.T) {
	_, p := four(t)
	gaps(t, p, 0, 0, 100, 3, 3, 5, 8)
	gaps(t, p, 0, 7, 7, 3, 3, 5, 8)
	gaps(t, p, 0, 5, 7, 3, 3, 5, 8)
	gaps(t, p, 0, 8, 8)
	gaps(t, p, 0, 9, 3)
}

func TestExampleNumbers(t *testing.T) {
	_, p := four(t)
	for n := range 8 {
		opens(t, p, 0, n+1)
	}
	opensNot(t, p, 0, api.ErrFull)
	is(t, "P1803: Close(3)", p.Close(3), api.OK)
	opens(t, p, 5, 3)
	is(t, "P1803: Close(9)", p.Close(9), api.ErrCursor)
	fails(t, "Next", p.Next, 0, api.ErrCursor)
	opensNot(t, p, 8, api.ErrArg)
	opensNot(t, p, -1, api.ErrArg)
	if l, e := p.Gaps(8, 0, 1); len(l) != 0 || e != api.ErrArg {
		t.Errorf("P1805: Gaps(8, 0, 1) = %v, %d", l, e)
	}
}

// nobody: of such a player every call answers ErrArg and zeros.
func nobody(t *testing.T, what string, p *playback.Player) {
	t.Helper()
	for _, n := range []int{-1, 0, 1, 8, 9} {
		opensNot(t, p, n, api.ErrArg)
		fails(t, what+": Next", p.Next, n, api.ErrArg)
		fails(t, what+": Prev", p.Prev, n, api.ErrArg)
		fails(t, what+": Seek", seek(p, 5), n, api.ErrArg)
		is(t, "P1801: "+what+": Rewind", p.Rewind(n), api.ErrArg)
		is(t, "P1801: "+what+": Close", p.Close(n), api.ErrArg)
		if l, e := p.Gaps(n, 0, top); len(l) != 0 || e != api.ErrArg {
			t.Errorf("P1801: %s: Gaps(%d) = %v, %d", what, n, l, e)
		}
		cursors(t, p)
	}
}

func TestNobodysPlayer(t *testing.T) {
	nobody(t, "nil", nil)
	nobody(t, "not made", &playback.Player{})
}

func TestNew(t *testing.T) {
	if p, e := playback.New(nil); p != nil || e != api.ErrArg {
		t.Errorf("P1802: New(nil) = %v, %d", p, e)
	}
	_, p := four(t)
	cursors(t, p)
	fails(t, "Next", p.Next, 1, api.ErrCursor)
}

// A database that streamdb.Open did not make has no frame; cursors can be opened all the same.
func TestNobodysDatabase(t *testing.T) {
	p := player(t, &streamdb.DB{})
	cursors(t, p)
	for stream := range 8 {
		opens(t, p, stream, stream+1)
		fails(t, "Next", p.Next, stream+1, api.ErrNone)
		fails(t, "Prev", p.Prev, stream+1, api.ErrNone)
		fails(t, "Seek", seek(p, 0), stream+1, api.ErrNone)
		is(t, "P1804: Rewind", p.Rewind(stream+1), api.OK)
		gaps(t, p, stream, 0, top)
	}
	opensNot(t, p, 0, api.ErrFull)
	is(t, "P1803: Close", p.Close(2), api.OK)
	cursors(t, p, 1, 3, 4, 5, 6, 7, 8)
	if _, e := p.Gaps(8, 0, 1); e != api.ErrArg {
		t.Errorf("P1805: Gaps(8) = %d", e)
	}
}

func TestNoSuchStream(t *testing.T) {
	_, p := four(t)
	for range 2 { // the second time with all cursors open: ErrArg is named ahead of ErrFull
		for _, stream := range []int{-1, 8, 9, math.MinInt, math.MaxInt, 1 << 32} {
			opensNot(t, p, stream, api.ErrArg)
			if l, e := p.Gaps(stream, 0, top); len(l) != 0 || e != api.ErrArg {
				t.Errorf("P1805: Gaps(%d) = %v, %d", stream, l, e)
			}
		}
		for len(p.Cursors()) < 8 {
			p.Open(0)
		}
	}
}

func TestNoSuchCursor(t *testing.T) {
	_, p := four(t)
	opens(t, p, 0, 1)
	opens(t, p, 0, 2)
	opens(t, p, 0, 3)
	lands(t, "Next", p.Next, 1, at(5, 1))
	is(t, "P1803: Close", p.Close(2), api.OK)
	for _, n := range []int{2, 4, 8, 0, -1, 9, 10, math.MinInt, math.MaxInt, 1 << 32, 1<<32 + 1} {
		for range 2 {
			fails(t, "Next", p.Next, n, api.ErrCursor)
			fails(t, "Prev", p.Prev, n, api.ErrCursor)
			fails(t, "Seek(0)", seek(p, 0), n, api.ErrCursor)
			fails(t, "Seek(9)", seek(p, 9), n, api.ErrCursor)
			is(t, "P1804: Rewind", p.Rewind(n), api.ErrCursor)
			is(t, "P1803: Close", p.Close(n), api.ErrCursor)
		}
	}
	cursors(t, p, 1, 3)
	lands(t, "Next: nothing has changed", p.Next, 1, at(7, 2))
	lands(t, "Next: nothing has changed", p.Next, 3, at(5, 1))
}

// The number of a new cursor is the least one that is free, whichever are; and it stands ahead of all frames, whatever stood there.
func TestLeastFreeNumber(t *testing.T) {
	for free := range 1 << 8 {
		_, p := four(t)
		for n := range 8 {
			opens(t, p, 0, n+1)
			lands(t, "Seek", seek(p, 8), n+1, at(8, 4))
		}
		var closed, stay []int
		for n := 1; n <= 8; n++ {
			if free>>(n-1)&1 == 1 {
				closed = append(closed, n)
			} else {
				stay = append(stay, n)
			}
		}
		for _, n := range slices.Backward(closed) {
			is(t, "P1803: Close", p.Close(n), api.OK)
			is(t, "P1803: Close again", p.Close(n), api.ErrCursor)
		}
		cursors(t, p, stay...)
		for _, n := range closed {
			opens(t, p, 0, n)
			fails(t, "Prev of a new one", p.Prev, n, api.ErrNone)
			lands(t, "Next of a new one", p.Next, n, at(5, 1))
		}
		opensNot(t, p, 0, api.ErrFull)
		for _, n := range stay {
			lands(t, "Prev of one that stayed", p.Prev, n, at(7, 9))
		}
		if free%16 != 0 {
			continue
		}
		for n := 8; n > 0; n-- {
			is(t, "P1803: Close", p.Close(n), api.OK)
		}
		cursors(t, p)
		opens(t, p, 0, 1)
	}
}

// Each cursor goes over the stream that it was opened for, and stands by itself.
func TestCursorsApart(t *testing.T) {
	db, p := with(t)
	for stream := range 8 {
		put(t, db, stream, at(uint64(10+stream), 1), at(uint64(20+stream), 2), at(30, uint64(stream)))
	}
	order := []int{5, 0, 7, 3, 3, 1, 0, 6}
	for i, stream := range order {
		opens(t, p, stream, i+1)
	}
	for steps := range 3 {
		for i, stream := range order {
			if i%3 > steps {
				continue
			}
			want := []api.Stamp{at(uint64(10+stream), 1), at(uint64(20+stream), 2), at(30, uint64(stream))}[steps-i%3]
			if f, e := p.Next(i + 1); e != api.OK || !same(f, framed(stream, want)) {
				t.Errorf("P1804: Next(%d) = %v, %d, want %d %v", i+1, f, e, stream, want)
			}
		}
	}
	is(t, "P1804: Rewind", p.Rewind(4), api.OK)
	if f, e := p.Prev(5); e != api.OK || !same(f, framed(3, at(13, 1))) {
		t.Errorf("P1804: Prev(5) = %v, %d: another cursor's Rewind changed it", f, e)
	}
	if f, e := p.Next(4); e != api.OK || !same(f, framed(3, at(13, 1))) {
		t.Errorf("P1804: Next(4) = %v, %d", f, e)
	}
}

func TestPlayersApart(t *testing.T) {
	db, p := four(t)
	q := player(t, db)
	opens(t, p, 0, 1)
	opens(t, p, 0, 2)
	lands(t, "Next", p.Next, 1, at(5, 1))
	cursors(t, q)
	fails(t, "Next", q.Next, 1, api.ErrCursor)
	opens(t, q, 0, 1)
	lands(t, "Seek", seek(q, 8), 1, at(8, 4))
	lands(t, "Next", p.Next, 1, at(7, 2))
	is(t, "P1803: Close", q.Close(1), api.OK)
	cursors(t, q)
	cursors(t, p, 1, 2)
	lands(t, "Prev", p.Prev, 1, at(5, 1))
	for n := range 6 {
		opens(t, p, 0, n+3)
	}
	opensNot(t, p, 0, api.ErrFull)
	opens(t, q, 0, 1)
	cursors(t, player(t, db))
}

// With ErrNone the place stays, also ahead of all frames.
func TestPlaceStays(t *testing.T) {
	_, p := four(t)
	opens(t, p, 0, 1)
	fails(t, "Prev", p.Prev, 1, api.ErrNone)
	fails(t, "Seek(9)", seek(p, 9), 1, api.ErrNone)
	fails(t, "Seek(top)", seek(p, top), 1, api.ErrNone)
	fails(t, "Prev: ahead still", p.Prev, 1, api.ErrNone)
	lands(t, "Next: ahead still", p.Next, 1, at(5, 1))
	fails(t, "Prev", p.Prev, 1, api.ErrNone)
	fails(t, "Prev", p.Prev, 1, api.ErrNone)
	fails(t, "Seek(9)", seek(p, 9), 1, api.ErrNone)
	lands(t, "Next: at the first still", p.Next, 1, at(7, 2))
	lands(t, "Seek(8)", seek(p, 8), 1, at(8, 4))
	for range 3 {
		fails(t, "Next", p.Next, 1, api.ErrNone)
	}
	fails(t, "Seek(9)", seek(p, 9), 1, api.ErrNone)
	lands(t, "Prev: at the last still", p.Prev, 1, at(7, 9))
	is(t, "P1804: Rewind", p.Rewind(1), api.OK)
	is(t, "P1804: Rewind again", p.Rewind(1), api.OK)
	fails(t, "Prev", p.Prev, 1, api.ErrNone)
	lands(t, "Next", p.Next, 1, at(5, 1))
}

// Seek goes by the time alone, from wherever the cursor stands.
func TestSeek(t *testing.T) {
	stamps := []api.Stamp{at(0, 0), at(0, 7), at(5, 0), at(5, most), at(6, 3), at(most, 0), at(most, most)}
	_, p := with(t, stamps...)
	opens(t, p, 0, 1)
	for _, from := range stamps {
		for time, want := range map[uint64]api.Stamp{0: at(0, 0), 1: at(5, 0), 4: at(5, 0), 5: at(5, 0), 6: at(6, 3), 7: at(most, 0), most - 1: at(most, 0), most: at(most, 0)} {
			is(t, "P1804: Rewind", p.Rewind(1), api.OK)
			for {
				if f, _ := p.Next(1); f.Stamp == from {
					break
				}
			}
			lands(t, "Seek", seek(p, time), 1, want)
		}
	}
	for _, time := range []uint64{most + 1, 1 << 63, top} {
		fails(t, "Seek", seek(p, time), 1, api.ErrNone)
	}
}

// Stamps at the ends of their ranges, and neighbours.
func TestEndsOfStamps(t *testing.T) {
	stamps := []api.Stamp{at(0, 0), at(0, 1), at(0, most-1), at(0, most), at(1, 0), at(1, most), at(3, 0), at(3, 1), at(most-1, most), at(most, 0), at(most, 1), at(most, most-1), at(most, most)}
	_, p := with(t, stamps...)
	opens(t, p, 0, 1)
	for range 2 {
		for _, s := range stamps {
			lands(t, "Next", p.Next, 1, s)
		}
		fails(t, "Next", p.Next, 1, api.ErrNone)
		for _, s := range slices.Backward(stamps[:len(stamps)-1]) {
			lands(t, "Prev", p.Prev, 1, s)
		}
		fails(t, "Prev", p.Prev, 1, api.ErrNone)
		lands(t, "Next: it stands at the first one", p.Next, 1, stamps[1])
		is(t, "P1804: Rewind", p.Rewind(1), api.OK)
	}
}

// A stream with one frame, at each end of the stamps' ranges.
func TestOneFrame(t *testing.T) {
	for _, s := range []api.Stamp{at(0, 0), at(0, most), at(most, 0), at(most, most), at(1, 0), at(5, 5)} {
		_, p := with(t, s)
		opens(t, p, 0, 1)
		fails(t, "Prev", p.Prev, 1, api.ErrNone)
		lands(t, "Next", p.Next, 1, s)
		fails(t, "Next", p.Next, 1, api.ErrNone)
		fails(t, "Prev", p.Prev, 1, api.ErrNone)
		lands(t, "Seek", seek(p, s.Time), 1, s)
		fails(t, "Seek", seek(p, s.Time+1), 1, api.ErrNone)
		gaps(t, p, 0, 0, top)
	}
}

// A place stays over all that happens to the stream: it is nobody's frame.
func TestPlaceOutlivesTheStream(t *testing.T) {
	db, p := four(t)
	opens(t, p, 0, 1)
	opens(t, p, 0, 2)
	lands(t, "Seek", seek(p, 7), 1, at(7, 2))
	is(t, "P803: Unlisten", db.Unlisten(0), api.OK)
	fails(t, "Next", p.Next, 1, api.ErrNone)
	fails(t, "Prev", p.Prev, 1, api.ErrNone)
	fails(t, "Seek", seek(p, 0), 1, api.ErrNone)
	gaps(t, p, 0, 0, top)
	cursors(t, p, 1, 2)
	listens(t, db, 0)
	fails(t, "Next", p.Next, 1, api.ErrNone)
	put(t, db, 0, at(7, 1), at(7, 3), at(6, 2))
	lands(t, "Next", p.Next, 1, at(7, 3))
	lands(t, "Prev", p.Prev, 1, at(7, 1))
	lands(t, "Next of one ahead of all", p.Next, 2, at(6, 2))
	put(t, db, 0, at(7, 2))
	lands(t, "Next", p.Next, 1, at(7, 2))
}

// A cursor may stand over a stream that nobody listens to.
func TestNobodyListens(t *testing.T) {
	_, _, db, p := fresh(t)
	opens(t, p, 0, 1)
	fails(t, "Next", p.Next, 1, api.ErrNone)
	fails(t, "Prev", p.Prev, 1, api.ErrNone)
	fails(t, "Seek", seek(p, 0), 1, api.ErrNone)
	gaps(t, p, 0, 0, top)
	listens(t, db, 0)
	put(t, db, 0, at(5, 5))
	lands(t, "Next", p.Next, 1, at(5, 5))
}

// Frames that roll out are passed by like those that are swept.
func TestRolledOut(t *testing.T) {
	_, _, db, p := fresh(t)
	if e := db.Listen(0, api.Quota{Count: 2, Bytes: 100}); e != api.OK {
		t.Fatal(e)
	}
	opens(t, p, 0, 1)
	opens(t, p, 0, 2)
	put(t, db, 0, at(1, 1), at(2, 2))
	lands(t, "Next", p.Next, 1, at(1, 1))
	put(t, db, 0, at(3, 3), at(4, 4))
	lands(t, "Next", p.Next, 1, at(3, 3))
	fails(t, "Prev", p.Prev, 1, api.ErrNone)
	lands(t, "Next: the place stayed", p.Next, 1, at(4, 4))
	lands(t, "Next of one ahead of all", p.Next, 2, at(3, 3))
	gaps(t, p, 0, 0, 100)
	put(t, db, 0, at(9, 9))
	gaps(t, p, 0, 0, 100, 5, 8)
}

func TestGapsEnds(t *testing.T) {
	_, p := with(t, at(10, 1), at(20, 4), at(30, 8), at(40, 2), at(50, 20))
	for _, x := range []struct {
		a, b uint64
		want []uint64
	}{
		{0, top, []uint64{3, 3, 5, 7, 9, 19}},
		{10, 50, []uint64{3, 3, 5, 7, 9, 19}},
		{11, 50, []uint64{3, 3, 5, 7, 9, 19}},
		{10, 49, []uint64{3, 3, 5, 7}},
		{11, 39, []uint64{5, 7}},
		{10, 20, []uint64{3, 3}},
		{10, 19, nil},
		{11, 20, nil},
		{11, 19, nil},
		{20, 30, []uint64{5, 7}},
		{20, 29, nil},
		{21, 30, nil},
		{30, 40, []uint64{3, 3, 5, 7}},
		{31, 50, []uint64{3, 3, 5, 7, 9, 19}},
		{50, 50, nil},
		{50, top, nil},
		{0, 10, nil},
		{0, 9, nil},
		{51, top, nil},
		{50, 10, nil},
		{top, 0, nil},
		{top, top, nil},
		{0, 0, nil},
		{31, 30, nil},
	} {
		gaps(t, p, 0, x.a, x.b, x.want...)
	}
	gaps(t, p, 1, 0, top)
}

// The same number with several times is one number.
func TestGapsOfNumbersThatAreThereTwice(t *testing.T) {
	_, p := with(t, at(1, 0), at(2, 0), at(3, 0))
	gaps(t, p, 0, 0, top)
	_, p = with(t, at(1, 5), at(2, 5))
	gaps(t, p, 0, 0, top)
	_, p = with(t, at(1, 5), at(2, 5), at(3, 7), at(4, 7), at(5, 5), at(6, 10))
	gaps(t, p, 0, 0, top, 6, 6, 8, 9)
	gaps(t, p, 0, 1, 2)
	gaps(t, p, 0, 2, 3, 6, 6)
	gaps(t, p, 0, 4, 5, 6, 6)
	gaps(t, p, 0, 3, 4)
	_, p = with(t, at(1, most), at(2, most), at(3, 0), at(4, 0), at(most, 0))
	gaps(t, p, 0, 0, top, 1, most-1)
	gaps(t, p, 0, 1, 2)
	gaps(t, p, 0, 3, top)
	gaps(t, p, 0, 2, 3, 1, most-1)
}

// Numbers outside the times count as there, below, between and above those within.
func TestGapsWhateverTheirTimes(t *testing.T) {
	_, p := with(t, at(1, 12), at(1, 5), at(5, 10), at(6, 15), at(9, 11), at(9, 14), at(9, 30))
	gaps(t, p, 0, 5, 6, 13, 13)
	_, p = with(t, at(1, 11), at(5, 10), at(6, 12))
	gaps(t, p, 0, 5, 6)
	_, p = with(t, at(5, 10), at(6, 11), at(7, 12))
	gaps(t, p, 0, 0, top)
}

func TestGapsAtTheEndsOfNumbers(t *testing.T) {
	_, p := with(t, at(1, 0), at(2, 2), at(3, most-2), at(4, most))
	gaps(t, p, 0, 0, top, 1, 1, 3, most-3, most-1, most-1)
	_, p = with(t, at(most, 0), at(most, most))
	gaps(t, p, 0, most, most, 1, most-1)
	gaps(t, p, 0, most, top, 1, most-1)
	gaps(t, p, 0, most+1, top)
	gaps(t, p, 0, 0, most-1)
	_, p = with(t, at(0, 0), at(0, most), at(0, 7))
	gaps(t, p, 0, 0, 0, 1, 6, 8, most-1)
}

// The streams' numbers stand apart, and cursors have nothing to do with gaps.
func TestGapsOfEachStream(t *testing.T) {
	db, p := with(t)
	for stream := range 8 {
		put(t, db, stream, at(5, uint64(stream)), at(6, 20), at(7, uint64(stream+10)))
	}
	opens(t, p, 0, 1)
	lands(t, "Seek", seek(p, 6), 1, at(6, 20))
	for s := uint64(0); s < 8; s++ {
		gaps(t, p, int(s), 0, top, s+1, s+9, s+11, 19)
		gaps(t, p, int(s), 6, 7, s+11, 19)
	}
	lands(t, "Next", p.Next, 1, at(7, 10))
}
