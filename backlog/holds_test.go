package backlog_test

import (
	"maps"
	"math/rand"
	"slices"
	"testing"

	"halyard/api"
	"halyard/backlog"
	"halyard/disk"
	"halyard/table"
)

// story: a backlog through the falls of its disk's power, told by what its calls answered.
type story struct {
	*pair
	had  []plain // what it was behind each commit of this life, from what Open found on
	kept int     // all up to had[kept] last
}

func newStory(t *testing.T, size int) *story {
	t.Helper()
	s := &story{pair: newPair(t, size, false)}
	s.had = []plain{*s.plain}
	return s
}

// open: the next life, behind a crash; false, if the power is gone in the midst.
func (s *story) open() bool {
	s.t.Helper()
	tb, e := table.Open(s.d, 0, s.d.Sectors())
	if e == api.ErrPower {
		return false
	}
	if e != api.OK {
		s.t.Fatalf("P6.9: Open = %d", e)
	}
	s.tb, s.b = tb, open(s.t, tb)
	told := backlogTells(s.b)
	found := slices.IndexFunc(s.had[s.kept:], func(p plain) bool { return p.tells() == told })
	if found < 0 {
		s.t.Fatalf("P909: behind a crash it tells\n%s, which is none of %d states", told, len(s.had)-s.kept)
	}
	now := s.had[s.kept+found]
	now.down, now.commits = false, nil
	s.plain, s.had, s.kept = &now, []plain{now}, 0
	s.looks("open")
	return true
}

// act: one call. Where the power goes in the midst nothing has changed.
func (s *story) act(c call) {
	s.t.Helper()
	if c.name == "open" && s.d.Down() {
		if b, e := backlog.Open(s.tb); b != nil || e != api.ErrPower {
			s.t.Fatalf("P902: Open without power = %v, %d", b, e)
		}
		return
	}
	next := s.plain.copied()
	e := s.once(c, &next)
	if e == api.ErrPower {
		s.plain.down = true
	} else {
		s.plain = &next
	}
	if len(s.plain.commits) > 0 {
		s.plain.commits = nil
		s.had = append(s.had, s.plain.copied())
	}
	s.looks(c.name)
	// All but the unflushed ones last, also where a checkpoint was broken off.
	s.kept = max(s.kept, len(s.had)-1-s.tb.Unflushed())
	if s.tb.Unflushed() > len(s.had)-1 {
		s.t.Fatalf("P910: %d commits are unflushed, of %d", s.tb.Unflushed(), len(s.had)-1)
	}
}

// once: the call on the backlog, and on the plain one as if there were power.
func (s *story) once(c call, p *plain) (e api.Errno) {
	want := api.OK
	switch c.name {
	case "begin":
		e, want = s.b.Begin(c.stream), p.begin(c.stream)
	case "cease":
		e, want = s.b.Cease(c.stream), p.cease(c.stream)
	case "put":
		_, _, e = s.b.Put(c.stream, c.time, c.life, c.data, c.now)
		_, _, want = p.put(c.stream, c.time, c.life, c.data, c.now)
	case "done":
		e, want = s.b.Done(key(c.stream, c.seq)), p.done(key(c.stream, c.seq))
	case "open":
		s.b = open(s.t, s.tb)
	case "flush":
		e = s.tb.Flush()
	}
	if e != want && e != api.ErrPower {
		s.t.Fatalf("P901: %v = %d, want %d", c, e, want)
	}
	return e
}

// someCrash: mostly a first part of what was written; or any versions, or unreadable sectors.
func someCrash(r *rand.Rand, d *disk.Disk) (out []int) {
	sectors, _ := d.Dirty()
	kind, cut := r.Intn(4), r.Intn(len(sectors)+1)
	for i := range sectors {
		switch {
		case kind == 0 && i >= cut, kind == 1 && i < cut:
			out = append(out, 0)
		case kind == 2 && r.Intn(9) == 0:
			out = append(out, r.Intn(2)-1)
		default:
			out = append(out, 1+r.Intn(9)/8)
		}
	}
	return out
}

// Lives with fuses and crashes: behind each it is what it was behind a first part of what was not flushed.
func TestManyLives(t *testing.T) {
	r := rand.New(rand.NewSource(94))
	for _, c := range []struct{ size, streams, times, most, lives, calls int }{
		{110, 2, 12, 6, 300, 40}, {110, 8, 12, 6, 300, 60}, {200, 8, 20, 30, 100, 90}, {400, 4, 9, 512, 60, 60},
	} {
		s := newStory(t, c.size)
		lived := 0
		for range c.lives {
			s.d.Cut(r.Intn(c.calls*2) - 5)
			if s.open() {
				lived++
				for range r.Intn(c.calls + 1) {
					s.act(someCall(r, s.plain, c.streams, c.times, c.most))
				}
			}
			s.d.Crash(someCrash(r, s.d))
		}
		if !s.open() || lived < c.lives/2 {
			t.Fatalf("P909: it was opened %d times", lived)
		}
	}
}

// A power that goes at each operation of a row of calls; then a crash that keeps all, or nothing, of what was written.
func TestEveryFuse(t *testing.T) {
	row := []call{
		{name: "begin", stream: 1}, {name: "put", stream: 1, time: 5, life: 9, data: make([]byte, 300)}, {name: "put", stream: 1, time: 4, life: 9},
		{name: "flush"}, {name: "done", stream: 1, seq: 0}, {name: "begin", stream: 6}, {name: "put", stream: 6, time: 1, life: 9, data: make([]byte, 512)},
		{name: "cease", stream: 1}, {name: "flush"}, {name: "done", stream: 1, seq: 1}, {name: "put", stream: 6, time: 2, life: 9, data: []byte("x")},
	}
	for fuse := 0; ; fuse++ {
		down := false
		for _, version := range []int{0, 1} {
			s := newStory(t, 110)
			s.d.Cut(fuse)
			for _, c := range row {
				s.act(c)
			}
			down = s.d.Down()
			sectors, _ := s.d.Dirty()
			s.d.Crash(slices.Repeat([]int{version}, len(sectors)))
			if !s.open() {
				t.Fatal("P909: it does not open")
			}
		}
		if !down {
			if fuse < 15 {
				t.Errorf("%d operations", fuse)
			}
			return
		}
	}
}

// A Flush that answered OK, and then a crash that forgets all else.
func TestFlushed(t *testing.T) {
	r := rand.New(rand.NewSource(95))
	for range 60 {
		x := newPair(t, 300, false)
		for range r.Intn(60) {
			x.do(someCall(r, x.plain, 4, 12, 20))
		}
		is(t, "P6.4", x.tb.Flush(), api.OK)
		told := backlogTells(x.b)
		for range r.Intn(4) {
			x.do(someCall(r, x.plain, 4, 12, 0))
		}
		x.d.Crash(nil)
		if again := backlogTells(open(t, openTable(t, x.d))); again != told {
			t.Fatalf("P909: behind a flush and a crash it tells\n%s, want\n%s", again, told)
		}
	}
}

// sender: all that Put answered of a stream.
type sender struct {
	count    uint64
	greatest *api.Stamp
}

// Numbers rise by one, from 0 on, and newest is answered just of those above all, through openings of all kinds; what is there is what was put and is not done with.
func TestNumbersForEver(t *testing.T) {
	r := rand.New(rand.NewSource(97))
	d, tb, b := fresh(t)
	var all [8]sender
	var there []api.Frame
	given := map[api.Key]int{}
	for step := range 12000 {
		switch n := r.Intn(40); {
		case n < 4:
			b.Begin(r.Intn(8))
		case n < 5:
			b.Cease(r.Intn(8))
		case n == 5:
			b = open(t, tb)
		case n == 6:
			is(t, "P6.4", tb.Flush(), api.OK)
			d.Crash(nil)
			tb = openTable(t, d)
			b = open(t, tb)
		case n < 20 && len(there) > 0:
			i := r.Intn(len(there))
			is(t, "P905", b.Done(key(there[i].Stream, there[i].Stamp.Seq)), api.OK)
			there = slices.Delete(there, i, i+1)
		default:
			f, newest, e := b.Put(r.Intn(8), uint64(step/50+r.Intn(20)), uint64(r.Intn(90)), []byte{byte(step)}, uint64(step/50))
			if e != api.OK {
				continue
			}
			s := &all[f.Stream]
			if f.Stamp.Seq != s.count || newest != (s.greatest == nil || s.greatest.Less(f.Stamp)) {
				t.Fatalf("P907: %v, newest %v, behind %d frames, the greatest of them %v", f, newest, s.count, s.greatest)
			}
			if newest {
				s.greatest = ref(f.Stamp)
			}
			s.count++
			given[key(f.Stream, f.Stamp.Seq)]++
			there = append(there, f)
		}
		if step%7 == 0 {
			has(t, "P908", b, there...)
		}
		if len(b.Keys()) > 64 {
			t.Fatalf("P910: %d frames", len(b.Keys()))
		}
	}
	for k, n := range given {
		if n > 1 {
			t.Errorf("P907: the key %v was given %d times", k, n)
		}
	}
	if len(given) < 3000 {
		t.Errorf("%d frames", len(given))
	}
}

// A refused call changes neither the backlog nor the table.
func TestRefusedChangesNothing(t *testing.T) {
	_, tb, b := begun(t, 0, 3)
	takes(t, b, frame(3, 5, 0, 9, "abc"), 0, true)
	told, pairs, unflushed := backlogTells(b), pairsOf(tb), tb.Unflushed()
	for what, refused := range map[string]func() api.Errno{
		"Begin of none":     func() api.Errno { return b.Begin(8) },
		"Begin again":       func() api.Errno { return b.Begin(3) },
		"Cease of none":     func() api.Errno { return b.Cease(-1) },
		"Cease":             func() api.Errno { return b.Cease(2) },
		"Done":              func() api.Errno { return b.Done(key(3, 1)) },
		"Put to none":       func() api.Errno { _, _, e := b.Put(9, 5, 9, nil, 0); return e },
		"Put, not open":     func() api.Errno { _, _, e := b.Put(2, 5, 9, nil, 0); return e },
		"Put, a time above": func() api.Errno { _, _, e := b.Put(3, 1<<48, 9, nil, 0); return e },
		"Put, a life above": func() api.Errno { _, _, e := b.Put(3, 5, 1<<48, nil, 0); return e },
		"Put, too great":    func() api.Errno { _, _, e := b.Put(3, 5, 9, make([]byte, 513), 0); return e },
		"Put, too late":     func() api.Errno { _, _, e := b.Put(3, 5, 9, nil, 14); return e },
	} {
		if refused() == api.OK {
			t.Errorf("P910: %s is not refused", what)
		}
		if backlogTells(b) != told || !maps.Equal(pairsOf(tb), pairs) || tb.Unflushed() != unflushed {
			t.Errorf("P910: %s changed something", what)
		}
	}
}
