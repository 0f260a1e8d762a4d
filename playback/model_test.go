package playback_test

import (
	"math/rand"
	"slices"
	"testing"

	"halyard/api"
	"halyard/playback"
	"halyard/streamdb"
)

// plain: a player as the chapter's sentences tell it: cursors in a map, all frames looked at in each call.
type plain struct {
	db      *streamdb.DB
	cursors map[int]*plainCursor
}

type plainCursor struct {
	stream int
	place  *api.Stamp // nil: ahead of all frames
}

func (p *plain) open(stream int) (int, api.Errno) {
	if stream < 0 || stream > 7 {
		return 0, api.ErrArg
	}
	for n := 1; n <= 8; n++ {
		if p.cursors[n] == nil {
			p.cursors[n] = &plainCursor{stream: stream}
			return n, api.OK
		}
	}
	return 0, api.ErrFull
}

func (p *plain) close(cursor int) api.Errno {
	if p.cursors[cursor] == nil {
		return api.ErrCursor
	}
	delete(p.cursors, cursor)
	return api.OK
}

func (p *plain) rewind(cursor int) api.Errno {
	if p.cursors[cursor] == nil {
		return api.ErrCursor
	}
	p.cursors[cursor].place = nil
	return api.OK
}

func (p *plain) open8() (out []int) {
	for n := 1; n <= 8; n++ {
		if p.cursors[n] != nil {
			out = append(out, n)
		}
	}
	return out
}

// to: the first one of the frames of which that is so, in their order or (back) the other way round.
func (p *plain) to(cursor int, back bool, so func(s api.Stamp, place *api.Stamp) bool) (api.Frame, api.Errno) {
	c := p.cursors[cursor]
	if c == nil {
		return api.Frame{}, api.ErrCursor
	}
	frames := slices.Collect(p.db.Frames(c.stream))
	if back {
		slices.Reverse(frames)
	}
	for _, f := range frames {
		if so(f.Stamp, c.place) {
			c.place = &f.Stamp
			return f, api.OK
		}
	}
	return api.Frame{}, api.ErrNone
}

func (p *plain) seek(cursor int, time uint64) (api.Frame, api.Errno) {
	return p.to(cursor, false, func(s api.Stamp, _ *api.Stamp) bool { return s.Time >= time })
}

func (p *plain) next(cursor int) (api.Frame, api.Errno) {
	return p.to(cursor, false, func(s api.Stamp, place *api.Stamp) bool { return place == nil || place.Less(s) })
}

func (p *plain) prev(cursor int) (api.Frame, api.Errno) {
	return p.to(cursor, true, func(s api.Stamp, place *api.Stamp) bool { return place != nil && s.Less(*place) })
}

// gaps: neighbour by neighbour. A run of missing numbers ends ahead of the least number that is there.
func (p *plain) gaps(stream int, a, b uint64) (out []api.Gap, e api.Errno) {
	if stream < 0 || stream > 7 {
		return nil, api.ErrArg
	}
	var there, within []uint64
	for f := range p.db.Frames(stream) {
		there = append(there, f.Stamp.Seq)
		if f.Stamp.Time >= a && f.Stamp.Time <= b {
			within = append(within, f.Stamp.Seq)
		}
	}
	slices.Sort(within)
	for i := 0; i+1 < len(within); i++ {
		n, m := within[i], within[i+1]
		for n < m {
			from := n + 1
			for from < m && slices.Contains(there, from) {
				from++
			}
			n = m
			for _, x := range there {
				if x > from && x < n {
					n = x
				}
			}
			if from < n {
				out = append(out, api.Gap{From: from, To: n - 1})
			}
		}
	}
	return out, api.OK
}

// call: one call, of a player or of its database.
type call struct {
	name       string // open, close, seek, next, prev, rewind, gaps; come, sweep, listen, unlisten
	n          int    // a stream's number, or a cursor's
	time, last uint64
	stamp      api.Stamp
}

// pair: a player and what it must be, over one database.
type pair struct {
	t     *testing.T
	db    *streamdb.DB
	p     *playback.Player
	plain *plain
}

func newPair(t *testing.T, db *streamdb.DB) *pair {
	t.Helper()
	return &pair{t, db, player(t, db), &plain{db, map[int]*plainCursor{}}}
}

// do: a call on both, or on the database.
func (x *pair) do(c call) {
	x.t.Helper()
	switch c.name {
	case "open":
		n, e := x.p.Open(c.n)
		if m, want := x.plain.open(c.n); n != m || e != want {
			x.t.Fatalf("P1803: Open(%d) = %d, %d, want %d, %d", c.n, n, e, m, want)
		}
	case "close":
		if e, want := x.p.Close(c.n), x.plain.close(c.n); e != want {
			x.t.Fatalf("P1803: Close(%d) = %d, want %d", c.n, e, want)
		}
	case "rewind":
		if e, want := x.p.Rewind(c.n), x.plain.rewind(c.n); e != want {
			x.t.Fatalf("P1804: Rewind(%d) = %d, want %d", c.n, e, want)
		}
	case "seek", "next", "prev":
		x.moves(c)
	case "gaps":
		l, e := x.p.Gaps(c.n, c.time, c.last)
		if m, want := x.plain.gaps(c.n, c.time, c.last); e != want || !slices.Equal(l, m) {
			x.t.Fatalf("P1805: Gaps(%d, %d, %d) = %v, %d, want %v, %d", c.n, c.time, c.last, l, e, m, want)
		}
	default:
		x.changes(c)
	}
	if got, want := x.p.Cursors(), x.plain.open8(); !slices.Equal(got, want) {
		x.t.Fatalf("P1803: behind %+v: Cursors = %v, want %v", c, got, want)
	}
}

func (x *pair) moves(c call) {
	x.t.Helper()
	var f, g api.Frame
	var e, want api.Errno
	switch c.name {
	case "seek":
		f, e = x.p.Seek(c.n, c.time)
		g, want = x.plain.seek(c.n, c.time)
	case "next":
		f, e = x.p.Next(c.n)
		g, want = x.plain.next(c.n)
	default:
		f, e = x.p.Prev(c.n)
		g, want = x.plain.prev(c.n)
	}
	if e != want || !same(f, g) {
		x.t.Fatalf("P1804: %+v: %v, %d, want %v, %d", c, f, e, g, want)
	}
}

// changes: of the database. Whether it takes them is its own business.
func (x *pair) changes(c call) {
	switch c.name {
	case "come":
		x.db.Insert(framed(c.n, c.stamp), 0, true)
	case "sweep":
		x.db.Sweep(c.time)
	case "listen":
		x.db.Listen(c.n, api.Quota{Count: 3 + int(c.time%6), Bytes: 30})
	case "unlisten":
		x.db.Unlisten(c.n)
	}
}

// some: calls on two cursors and few frames, so that rows of them meet one another.
func some() []call {
	return []call{
		{name: "open"}, {name: "close", n: 1},
		{name: "next", n: 1}, {name: "prev", n: 1}, {name: "rewind", n: 1}, {name: "seek", n: 1, time: 6}, {name: "seek", n: 1, time: 9},
		{name: "next", n: 2},
		{name: "gaps", last: 7},
		{name: "come", stamp: at(6, 0)}, {name: "come", stamp: at(6, 3)}, {name: "come", stamp: at(7, 1)},
		{name: "sweep", time: 8}, {name: "sweep", time: 1008},
	}
}

// The frame with the number 0 is over at 8 or ahead of it, those with 1 at 1008.
func TestEachRowOfCalls(t *testing.T) {
	all := some()
	n := len(all)
	for _, begins := range [][]api.Stamp{{}, {at(5, 0), at(7, 1)}} {
		db, _ := with(t)
		for row := range n * n * n * n {
			if row%2 == 0 { // else over what the row ahead left
				db.Unlisten(0)
				listens(t, db, 0)
				put(t, db, 0, begins...)
			}
			x := newPair(t, db)
			x.do(call{name: "open"})
			for k, i := row, 0; i < 4; i++ {
				x.do(all[k%n])
				k /= n
			}
			for _, c := range all[2:9] {
				x.do(c)
			}
		}
	}
}

// chance: calls by chance, on streams whose times and numbers are below some number each.
type chance struct {
	r           *rand.Rand
	streams     int
	times, seqs uint64
	far         bool // times and numbers that are far from one another, up to the greatest ones
}

func (c *chance) number(below uint64) uint64 {
	n := c.r.Uint64() % below
	if c.far && c.r.Intn(3) == 0 {
		n = most - n
	}
	if c.far && c.r.Intn(3) == 0 {
		n ^= 1 << c.r.Intn(48)
	}
	return n
}

func (c *chance) time() uint64 {
	if c.r.Intn(20) == 0 {
		return []uint64{0, most, most + 1, top}[c.r.Intn(4)]
	}
	return c.number(c.times)
}

func (c *chance) stream() int {
	if c.r.Intn(40) == 0 {
		return []int{-1, 8, 1 << 40}[c.r.Intn(3)]
	}
	return c.r.Intn(c.streams)
}

func (c *chance) cursor() int {
	if c.r.Intn(40) == 0 {
		return []int{-1, 0, 9, 1 << 40}[c.r.Intn(4)]
	}
	return 1 + c.r.Intn(8)
}

func (c *chance) call() call {
	switch i := c.r.Intn(100); {
	case i < 8:
		return call{name: "open", n: c.stream()}
	case i < 12:
		return call{name: "close", n: c.cursor()}
	case i < 16:
		return call{name: "rewind", n: c.cursor()}
	case i < 26:
		return call{name: "seek", n: c.cursor(), time: c.time()}
	case i < 44:
		return call{name: "next", n: c.cursor()}
	case i < 58:
		return call{name: "prev", n: c.cursor()}
	case i < 68:
		return call{name: "gaps", n: c.stream(), time: c.time(), last: c.time()}
	case i < 95:
		return call{name: "come", n: c.stream(), stamp: at(c.number(c.times), c.number(c.seqs))}
	case i < 97:
		return call{name: "sweep", time: c.time() * uint64(c.r.Intn(50)+1)}
	case i < 98:
		return call{name: "unlisten", n: c.stream()}
	}
	return call{name: "listen", n: c.stream(), time: c.r.Uint64()}
}

// TestAgainstThePlainOne: long rows of any calls, of three players over one database, in turn.
func TestAgainstThePlainOne(t *testing.T) {
	for seed := range int64(150) {
		r := rand.New(rand.NewSource(seed))
		c := &chance{r, 1 + r.Intn(3), 1 + uint64(r.Intn(30)), 1 + uint64(r.Intn(30)), seed%3 == 0}
		db, _ := with(t)
		players := []*pair{newPair(t, db), newPair(t, db), newPair(t, db)}
		for range 400 {
			players[r.Intn(3)].do(c.call())
		}
	}
}

// Streams with as many frames as they can have.
func TestGreatStreams(t *testing.T) {
	for seed := range int64(20) {
		r := rand.New(rand.NewSource(seed))
		c := &chance{r, 8, 1 + uint64(r.Intn(100)), 1 + uint64(r.Intn(200)), seed%2 == 0}
		db, _ := with(t)
		x := newPair(t, db)
		for stream := range 8 {
			for range 80 {
				x.do(call{name: "come", n: stream, stamp: at(c.number(c.times), c.number(c.seqs))})
			}
			x.do(call{name: "open", n: stream})
		}
		for range 2000 {
			next := c.call()
			for next.name == "unlisten" || next.name == "sweep" {
				next = c.call()
			}
			x.do(next)
		}
	}
}
