package streamdb_test

import (
	"math/rand"
	"slices"
	"testing"

	"halyard/api"
	"halyard/disk"
	"halyard/streamdb"
	"halyard/table"
)

// story: a database through the falls of its disk's power, told by what its calls answered.
type story struct {
	*pair
	had  []string // what was told behind each commit of this life, from what Open found on
	all  []plain  // and what the database was then
	kept int      // all up to had[kept] last
}

func newStory(t *testing.T, size int) *story {
	t.Helper()
	s := &story{pair: newPair(t, size, false)}
	s.had, s.all = []string{s.plain.tells()}, []plain{*s.plain}
	return s
}

// open: the next life, behind a crash; false, if the power is gone in the midst.
func (s *story) open() bool {
	s.t.Helper()
	tb, e := table.Open(s.d, 0, s.d.Sectors())
	if e == api.ErrPower {
		return false
	}
	if e != api.OK {
		s.t.Fatalf("P6.9: Open = %d", e)
	}
	s.tb, s.db = tb, openDB(s.t, tb)
	told := dbTells(s.db)
	found := slices.Index(s.had[s.kept:], told)
	if found < 0 {
		s.t.Fatalf("P809: behind a crash it tells\n%s, which is none of %d states", told, len(s.had)-s.kept)
	}
	now := s.all[s.kept+found]
	now.down, now.commits, now.told = false, nil, nil
	s.plain = &now
	s.had, s.all, s.kept = []string{told}, []plain{now}, 0
	s.looks("open")
	return true
}

// act: one call; where the power goes in the midst, the states of the commits that were made first are there.
func (s *story) act(c call) {
	s.t.Helper()
	s.plain.told = nil
	before := *s.plain
	e, swept := s.once(c)
	if e == api.ErrPower {
		s.plain.down = true
		if swept != 0 {
			s.t.Fatalf("P805: %d with an error", swept)
		}
	}
	told := dbTells(s.db)
	i := slices.Index(append([]string{before.tells()}, s.plain.told...), told)
	if i < 0 || e == api.OK && i != len(s.plain.told) && told != s.plain.tells() {
		s.t.Fatalf("P801: behind %s with the error %d it tells\n%s, want\n%s", c.name, e, told, s.plain.tells())
	}
	if e == api.ErrPower && c.name != "sweep" && told != before.tells() {
		s.t.Fatalf("P801: %s answers ErrPower and has changed something", c.name)
	}
	s.goesOn(c, before, e, i)
}

// once: the call on the database, and on the plain one as if there were power.
func (s *story) once(c call) (e api.Errno, swept int) {
	switch c.name {
	case "listen":
		e = s.db.Listen(c.stream, c.quota)
		s.plain.listen(c.stream, c.quota)
	case "unlisten":
		e = s.db.Unlisten(c.stream)
		s.plain.unlisten(c.stream)
	case "insert":
		_, e = s.db.Insert(c.frame, c.now, c.show)
		s.plain.insert(c.frame, c.now, c.show)
	case "sweep":
		swept, e = s.db.Sweep(c.now)
		s.plain.sweep(c.now)
	case "open":
		s.db = openDB(s.t, s.tb)
	case "flush":
		e = s.tb.Flush()
	}
	return e, swept
}

// goesOn: the states behind the first so many commits of a call are those that there were.
func (s *story) goesOn(c call, before plain, e api.Errno, commits int) {
	state := before
	state.told, state.commits = nil, nil
	step := state
	for range commits {
		if c.name == "sweep" {
			step = sweptOnce(step, c.now)
		} else {
			step = *s.plain
		}
		step.told, step.commits = nil, nil
		s.had, s.all = append(s.had, step.tells()), append(s.all, step)
	}
	step.down = e == api.ErrPower
	s.plain = &step
	// All but the unflushed ones last, also where a checkpoint was broken off.
	s.kept = max(s.kept, len(s.had)-1-s.tb.Unflushed())
	if s.kept < 0 || s.tb.Unflushed() > len(s.had)-1 {
		s.t.Fatalf("P801: %d commits are unflushed, of %d", s.tb.Unflushed(), len(s.had)-1)
	}
}

// sweptOnce: behind the first commit of a Sweep.
func sweptOnce(p plain, now uint64) plain {
	for n := range p.streams {
		one := p
		for m := range one.streams {
			if m != n {
				one.streams[m].frames = nil
			}
		}
		if k, _ := one.sweep(now); k > 0 {
			p.streams[n] = one.streams[n]
			return p
		}
	}
	return p
}

// someCrash: mostly a first part of what was written; or any versions, or unreadable sectors.
func someCrash(r *rand.Rand, d *disk.Disk) (out []int) {
	sectors, _ := d.Dirty()
	kind, cut := r.Intn(4), r.Intn(len(sectors)+1)
	for i := range sectors {
		switch {
		case kind == 0 && i >= cut, kind == 1 && i < cut:
			out = append(out, 0)
		case kind == 2 && r.Intn(9) == 0:
			out = append(out, r.Intn(2)-1)
		default:
			out = append(out, 1+r.Intn(9)/8)
		}
	}
	return out
}

// Lives with fuses and crashes: behind each it tells what was told behind a first part of what was not flushed.
func TestManyLives(t *testing.T) {
	r := rand.New(rand.NewSource(83))
	for _, c := range []struct{ size, streams, times, seqs, most, lives, calls int }{
		{110, 2, 12, 3, 6, 250, 40}, {110, 8, 12, 3, 6, 250, 60}, {200, 8, 20, 4, 30, 100, 90}, {400, 4, 9, 9, 512, 60, 60},
	} {
		s := newStory(t, c.size)
		for range c.lives {
			s.d.Cut(r.Intn(c.calls*2) - 5)
			if s.open() {
				for range r.Intn(c.calls + 1) {
					s.act(someCall(r, c.streams, c.times, c.seqs, c.most))
				}
			}
			s.d.Crash(someCrash(r, s.d))
		}
		if !s.open() {
			t.Fatal("P809: it does not open")
		}
	}
}

// A Sweep of eight streams whose power goes behind each of its commits.
func TestBrokenSweep(t *testing.T) {
	for fuse := range 10 {
		d, tb, db := fresh(t)
		for n := range 8 {
			is(t, "P803", db.Listen(n, quota(2, 9)), api.OK)
			f := frame(uint64(100+n%2), 1, "a")
			f.Stream = n
			inserts(t, db, f, 100, false, false, api.OK)
		}
		is(t, "P6.4", tb.Flush(), api.OK)
		d.Cut(fuse)
		n, e := db.Sweep(151)
		if fuse < 8 && (n != 0 || e != api.ErrPower) || fuse >= 8 && (n != 8 || e != api.OK) {
			t.Errorf("P805: Sweep with power for %d commits = %d, %d", fuse, n, e)
		}
		for n := range 8 {
			if count, _ := db.Count(n); (count == 0) != (n < fuse) {
				t.Errorf("P805: power for %d commits: stream %d has %d frames", fuse, n, count)
			}
		}
		told := dbTells(db)
		d.Crash([]int{1, 1, 1, 1, 1, 1, 1, 1})
		if again := dbTells(openDB(t, openTable(t, d))); again != told {
			t.Errorf("P809: power for %d commits: behind the crash it tells\n%s, want\n%s", fuse, again, told)
		}
		d.Crash(nil)
	}
}

// A Flush that answered OK, and then a crash that forgets all else.
func TestFlushed(t *testing.T) {
	r := rand.New(rand.NewSource(84))
	for range 60 {
		x := newPair(t, 300, false)
		for range r.Intn(60) {
			x.do(someCall(r, 4, 12, 3, 20))
		}
		is(t, "P6.4", x.tb.Flush(), api.OK)
		told := dbTells(x.db)
		for range r.Intn(10) {
			x.do(call{name: "listen", stream: r.Intn(8), quota: quota(1, 1)})
			x.do(call{name: "sweep", now: 30})
			x.do(call{name: "unlisten", stream: r.Intn(8)})
		}
		x.d.Crash(nil)
		if again := dbTells(openDB(t, openTable(t, x.d))); again != told {
			t.Fatalf("P809: behind a flush and a crash it tells\n%s, want\n%s", again, told)
		}
	}
}

// marksOf: High and Floor of all streams.
func marksOf(db *streamdb.DB) (out [16]*api.Stamp) {
	for n := range 8 {
		if s, ok := db.High(n); ok {
			out[2*n] = &s
		}
		if s, ok := db.Floor(n); ok {
			out[2*n+1] = &s
		}
	}
	return out
}

// Marks never fall; what was shown rises, and is at or below the high-water mark.
func TestMarksRise(t *testing.T) {
	r := rand.New(rand.NewSource(85))
	d, tb, db := fresh(t)
	was := marksOf(db)
	shown := map[int]api.Stamp{}
	for step := range 8000 {
		c := someCall(r, 3, 14, 4, 9)
		c.frame.Stamp.Time += uint64(step / 400)
		c.frame.Life += uint64(step / 400)
		switch c.name {
		case "listen":
			db.Listen(c.stream, c.quota)
		case "unlisten":
			db.Unlisten(c.stream)
		case "sweep":
			db.Sweep(c.now)
		case "open":
			db = openDB(t, tb)
		case "flush":
			tb.Flush()
			d.Crash(nil)
			tb = openTable(t, d)
			db = openDB(t, tb)
		case "insert":
			if ok, _ := db.Insert(c.frame, c.now, c.show); ok {
				last, is := shown[c.frame.Stream]
				high, _ := db.High(c.frame.Stream)
				if is && !last.Less(c.frame.Stamp) || high != c.frame.Stamp {
					t.Fatalf("P808: %v is shown behind %v, the high-water mark is %v", c.frame.Stamp, last, high)
				}
				shown[c.frame.Stream] = c.frame.Stamp
			}
		}
		now := marksOf(db)
		for i := range now {
			if was[i] != nil && (now[i] == nil || now[i].Less(*was[i])) {
				t.Fatalf("P808: behind %s mark %d of stream %d fell from %v", c.name, i%2, i/2, *was[i])
			}
		}
		was = now
		for n := range 8 {
			q, _ := db.Quota(n)
			if count, bytes := db.Count(n); count > q.Count || bytes > q.Bytes {
				t.Fatalf("P807: stream %d has %d frames, %d bytes, its quota is %v", n, count, bytes, q)
			}
		}
	}
	if len(shown) != 3 || was[0] == nil || was[1] == nil {
		t.Error("few were shown")
	}
}

// What has no room is refused, and nothing has changed; what is taken out makes room.
func TestRoom(t *testing.T) {
	d := formatted(t, 85)
	tb := openTable(t, d)
	db := openDB(t, tb)
	is(t, "P803", db.Listen(3, quota(64, 16384)), api.OK)
	var there []api.Frame
	for n := uint64(0); ; n++ {
		f := frame(100, n, "0123456789")
		_, e := db.Insert(f, 100, n == 0)
		if e == api.ErrFull {
			break
		}
		is(t, "P804", e, api.OK)
		there = append(there, f)
	}
	has(t, "P801: ErrFull", db, 3, there...)
	marks(t, "P801: ErrFull", db, 3, ref(at(100, 0)), nil)
	inserts(t, db, frame(100, 50, "0123456789"), 100, true, false, api.ErrFull)
	marks(t, "P801: ErrFull", db, 3, ref(at(100, 0)), nil)
	has(t, "P801: ErrFull", openDB(t, tb), 3, there...)
	is(t, "P803: a key has no room", db.Listen(4, quota(64, 16384)), api.ErrFull)
	zeros(t, "P801: ErrFull", db, 4)
	is(t, "P803: Unlisten has", db.Unlisten(3), api.OK)
	is(t, "P803", db.Listen(4, quota(64, 16384)), api.OK)
}
