package seglog_test

import (
	"bytes"
	"math/rand"
	"slices"
	"testing"

	"halyard/api"
	"halyard/disk"
	"halyard/seglog"
)

// story: what a log must still know, told by what its calls answered; one Log at a time.
type story struct {
	t           *testing.T
	d           *disk.Disk
	first, size int
	l           *seglog.Log
	epoch       uint64
	from        uint64 // the First that a Trim that answered OK has made
	maybe       uint64 // the First that a Trim that was broken off may have made
	fell        bool   // a call of this life answered ErrPower: those behind it do nothing
	had         []pair // the records, from First on
	kept        int    // so many of them last
}

// newStory: of a log that Format has made.
func newStory(t *testing.T, sectors, first, size int) *story {
	s := &story{t: t, d: newDisk(t, sectors), first: first, size: size}
	is(t, "P5.2", seglog.Format(s.d, first, size), api.OK)
	return s
}

// fork: the same story on a disk of its own; behind a crash, where a disk is its image.
func (s *story) fork() *story {
	other := *s
	other.d, _ = disk.Load(s.d.Image())
	other.had = slices.Clone(s.had)
	return &other
}

// open: false, if the power was gone in the midst.
func (s *story) open() bool {
	s.t.Helper()
	l, e := seglog.Open(s.d, s.first, s.size)
	if e == api.ErrPower {
		return false
	}
	if e != api.OK {
		s.t.Fatalf("P5.10: Open answers %d", e)
	}
	if l.Epoch() <= s.epoch {
		s.t.Fatalf("P5.12: epoch %d behind %d", l.Epoch(), s.epoch)
	}
	if l.First() != s.from && l.First() != s.maybe {
		s.t.Fatalf("P5.11: First %d, want %d or %d", l.First(), s.from, s.maybe)
	}
	lost := slices.IndexFunc(s.had, func(p pair) bool { return p.n >= l.First() })
	if lost < 0 {
		lost = len(s.had)
	}
	had, kept := s.had[lost:], max(0, s.kept-lost)
	got := listed(l, 0)
	if len(got) > len(had) || len(got) < kept || !slices.Equal(got, had[:len(got)]) {
		s.t.Fatalf("P5.10: %d records are there, of %d that were, %d of them flushed", len(got), len(had), kept)
	}
	s.l, s.epoch, s.from, s.maybe = l, l.Epoch(), l.First(), l.First()
	s.had, s.kept, s.fell = got, len(got), false
	s.room()
	return true
}

// room: P5.13.
func (s *story) room() {
	s.t.Helper()
	pieces := 0
	for _, p := range s.had {
		pieces += seglog.Need(len(p.rec))
	}
	if s.l.Free()+pieces != s.size-2 || s.l.Next() != s.l.First()+uint64(pieces) {
		s.t.Fatalf("P5.13: Free %d, First %d, Next %d, with %d pieces of %d", s.l.Free(), s.l.First(), s.l.Next(), pieces, s.size-2)
	}
}

func (s *story) append(rec string) api.Errno {
	s.t.Helper()
	next, fits := s.l.Next(), seglog.Need(len(rec)) <= s.l.Free()
	n, e := s.l.Append([]byte(rec))
	switch {
	case e == api.OK && n == next && fits:
		s.had = append(s.had, pair{n, rec})
	case e == api.OK, e == api.ErrFull && fits, e != api.ErrFull && e != api.ErrPower:
		s.t.Fatalf("P5.4: Append of %d bytes = %d, %d, at %d with %d free", len(rec), n, e, next, s.l.Free())
	}
	s.room()
	return s.answered(e)
}

func (s *story) flush() api.Errno {
	s.t.Helper()
	e := s.l.Flush()
	if e == api.OK {
		s.kept = len(s.had)
	}
	return s.answered(e)
}

// answered: a log that has fallen never gets up.
func (s *story) answered(e api.Errno) api.Errno {
	s.t.Helper()
	if s.fell && e != api.ErrPower {
		s.t.Fatalf("5.4: a log that has fallen answers %d", e)
	}
	s.fell = e == api.ErrPower
	return e
}

// trim: all but the last so many records are given up.
func (s *story) trim(leave int) api.Errno {
	s.t.Helper()
	k := max(0, len(s.had)-leave)
	n := s.l.Next()
	if k < len(s.had) {
		n = s.had[k].n
	}
	e := s.l.Trim(n)
	switch {
	case e == api.OK && n > s.from:
		s.had = s.had[k:]
		s.kept = len(s.had)
		s.from, s.maybe = n, n
	case e != api.OK && !s.fell:
		s.maybe = n
	}
	s.room()
	return s.answered(e)
}

// do: one call by its letter.
func (s *story) do(c byte) {
	s.t.Helper()
	switch c {
	case 'a':
		s.append("a")
	case 'b':
		s.append(letters(105))
	case 'c':
		s.append(letters(209))
	case '0':
		s.append("")
	case 'f':
		s.flush()
	case '-':
		s.trim(len(s.had) - 1)
	case '1':
		s.trim(1)
	case 't':
		s.trim(0)
	}
}

// life: from one crash to the next: with a fuse the log is opened, and these calls are made.
func (s *story) life(fuse int, calls string) {
	s.t.Helper()
	s.d.Cut(fuse)
	if !s.open() {
		return
	}
	for _, c := range []byte(calls) {
		s.do(c)
	}
}

// everyCrash: all choices for the dirty sectors: as it was, each version, unreadable.
func everyCrash(d *disk.Disk, then func(choices []int)) {
	_, versions := d.Dirty()
	choices := make([]int, len(versions))
	var from func(k int)
	from = func(k int) {
		if k == len(versions) {
			then(choices)
			return
		}
		for c := -1; c <= versions[k]; c++ {
			choices[k] = c
			from(k + 1)
		}
	}
	from(0)
}

// everyLife: each of the plan's first lives with every fuse and every crash, then each of the next ones; at the end the log opens. It tells how many ends there were.
func (s *story) everyLife(plan ...[]string) (ends int) {
	s.t.Helper()
	if len(plan) == 0 {
		if !s.open() {
			s.t.Fatal("P5.10: Open with power answers ErrPower")
		}
		return 1
	}
	for _, calls := range plan[0] {
		for fuse := 0; ; fuse++ {
			once := s.fork()
			once.life(fuse, calls)
			everyCrash(once.d, func(choices []int) {
				next := s.fork()
				next.life(fuse, calls)
				next.d.Crash(choices)
				ends += next.fork().everyLife(plan[1:]...)
			})
			if !once.d.Down() {
				break
			}
		}
	}
	return ends
}

func TestEveryCrash(t *testing.T) {
	ends := newStory(t, 6, 0, 6).everyLife([]string{"abf0", "bf1a", "aaa1f", "ba-c", "ctb", "0b0t"}, []string{"ab", "-b"})
	ends += newStory(t, 5, 0, 5).everyLife([]string{"ab", "aa-b"}, []string{"a", "t"}, []string{"a", "b-"})
	ends += newStory(t, 3, 0, 3).everyLife([]string{"ata", "0"}, []string{"t0", "a"}, []string{"at", "ta"})
	t.Log(ends, "ends")
	if ends < 10000 {
		t.Error("few ends")
	}
}

// someChoices: of a crash; mostly of versions that are there.
func someChoices(r *rand.Rand) (out []int) {
	for range r.Intn(10) {
		out = append(out, r.Intn(4)-r.Intn(8)/7)
	}
	return out
}

func TestManyLives(t *testing.T) {
	r := rand.New(rand.NewSource(7))
	for range 150 {
		size := 3 + r.Intn(10)
		s := newStory(t, 14, r.Intn(14-size+1), size)
		for range 40 {
			calls := make([]byte, r.Intn(12))
			for i := range calls {
				calls[i] = "aabbc00ff-1t"[r.Intn(12)]
			}
			s.life(r.Intn(30)-5, string(calls))
			s.d.Crash(someChoices(r))
		}
		if !s.open() {
			t.Fatal("P5.10")
		}
	}
}

// What was flushed, and that something was given up, stays so over crashes that take all they can.
func TestFlushedLasts(t *testing.T) {
	d := formatted(t)
	l := open(t, d)
	appends(t, "P5.4", l, "gone", 0, api.OK)
	appends(t, "P5.4", l, two, 1, api.OK)
	is(t, "P5.6", l.Trim(1), api.OK)
	for i, choices := range [][]int{nil, {0}, {-1}, {9}} {
		appends(t, "P5.4", l, "not flushed", 3, api.OK)
		d.Cut(0)
		is(t, "P5.5", l.Flush(), api.ErrPower)
		d.Crash(choices)
		l = open(t, d)
		tells(t, "P5.10, P5.11", l, uint64(i)+2, 1, 3)
		lists(t, "P5.10", l, 0, pair{1, two})
	}
}

// A Trim that was broken off has been, or has not, as the crash says.
func TestBrokenTrim(t *testing.T) {
	for choice, first := range map[int]uint64{0: 0, 1: 1, -1: 0, 2: 0} {
		d, l := standing(t)
		d.Cut(1)
		is(t, "P5.6", l.Trim(1), api.ErrPower)
		tells(t, "P5.6: broken off", l, 1, 0, 2)
		d.Crash([]int{choice})
		tells(t, "P5.11", open(t, d), 2, first, 2)
	}
}

// An Open that is broken off may have made its epoch, and the next one has a greater one all the same.
func TestBrokenOpen(t *testing.T) {
	for fuse := range 2 {
		for choice, epoch := range map[int]uint64{0: 2, 1: 3, -1: 2} {
			d, _ := standing(t)
			d.Cut(fuse)
			l, e := seglog.Open(d, 1, 6)
			if l != nil || e != api.ErrPower {
				t.Errorf("P5.3: Open, broken off = %v, %d", l, e)
			}
			d.Crash([]int{choice})
			if fuse == 0 {
				epoch = 2
			}
			l = open(t, d)
			tells(t, "P5.12", l, epoch, 0, 2)
			lists(t, "P5.10", l, 0, pair{0, "a"}, pair{1, "b"})
		}
	}
}

// A log whose records are given up as it goes is never full.
func TestNeverFull(t *testing.T) {
	r := rand.New(rand.NewSource(8))
	for _, size := range []int{3, 4, 5, 9} {
		s := newStory(t, 9, 0, size)
		s.open()
		for range 3000 {
			n := 1 + r.Intn(104*(size-2))
			for s.l.Free() < seglog.Need(n) {
				is(t, "P5.13: Trim", s.trim(len(s.had)-1), api.OK)
			}
			is(t, "P5.13: Append", s.append(letters(n)), api.OK)
		}
		if s.l.Next() < 3000 {
			t.Errorf("P5.13: Next %d", s.l.Next())
		}
		last := s.had[len(s.had)-1]
		reads(t, "P5.13", s.l, last.n, last.rec, api.OK)
	}
}

// A Format that the power broke off leaves what was there, or no log, or the new one.
func TestFormatIsWhole(t *testing.T) {
	for _, opens := range []int{1, 2} {
		stand := func() *disk.Disk {
			d := formatted(t)
			for range opens {
				l := open(t, d)
				appends(t, "P5.4", l, "a", l.Next(), api.OK)
				is(t, "P5.5", l.Flush(), api.OK)
			}
			return d
		}
		found := map[string]int{}
		for fuse := 0; fuse <= 11; fuse++ {
			once := stand()
			once.Cut(fuse)
			e := seglog.Format(once, 1, 6)
			everyCrash(once, func(choices []int) {
				d := stand()
				d.Cut(fuse)
				seglog.Format(d, 1, 6)
				d.Crash(choices)
				what := leftByFormat(t, d, opens)
				if found[what]++; e == api.OK && what != "new" {
					t.Errorf("P5.14: Format answered OK and left: %s", what)
				}
			})
		}
		if found["old"] == 0 || found["none"] == 0 || found["new"] == 0 {
			t.Errorf("P5.14: found %v", found)
		}
	}
}

// leftByFormat: which of the three a log is: it had a record for each time it was opened.
func leftByFormat(t *testing.T, d *disk.Disk, opens int) string {
	t.Helper()
	l, e := seglog.Open(d, 1, 6)
	switch {
	case e == api.ErrLog:
		return "none"
	case e == api.OK && l.Epoch() == 1:
		tells(t, "P5.14: the new log", l, 1, 0, 0)
		return "new"
	}
	is(t, "P5.14: Open", e, api.OK)
	tells(t, "P5.14: the old log", l, uint64(opens)+1, 0, uint64(opens))
	var want []pair
	for n := range uint64(opens) {
		want = append(want, pair{n, "a"})
	}
	lists(t, "P5.14: the old log", l, 0, want...)
	return "old"
}

// Format makes an empty log of whatever is there.
func TestFormatOfAnything(t *testing.T) {
	r := rand.New(rand.NewSource(9))
	for range 50 {
		s := newStory(t, 8, 1, 6)
		for range 5 {
			s.life(r.Intn(20)-3, "abf-a1")
			s.d.Crash(someChoices(r))
		}
		outside := s.d.Image()
		for range r.Intn(4) {
			tears(t, s.d, 1+r.Intn(6))
		}
		is(t, "P5.2", seglog.Format(s.d, 1, 6), api.OK)
		tells(t, "P5.14", open(t, s.d), 1, 0, 0)
		after := s.d.Image()
		if !bytes.Equal(after[:129], outside[:129]) || !bytes.Equal(after[7*129:], outside[7*129:]) {
			t.Error("P5.2: Format writes beside its place")
		}
	}
}

// Two logs on one disk keep to their places. (A Flush of one makes the other one's records last, too.)
func TestTwoPlaces(t *testing.T) {
	d := newDisk(t, 12)
	is(t, "P5.2", seglog.Format(d, 0, 6), api.OK)
	is(t, "P5.2", seglog.Format(d, 6, 6), api.OK)
	a, b := openAt(t, d, 0, 6), openAt(t, d, 6, 6)
	for n := range uint64(30) {
		is(t, "P5.6", a.Trim(n), api.OK)
		is(t, "P5.6", b.Trim(2*n), api.OK)
		appends(t, "P5.4", a, "one", n, api.OK)
		appends(t, "P5.4", b, two, 2*n, api.OK)
	}
	is(t, "P5.5", a.Flush(), api.OK)
	d.Crash(nil)
	a, b = openAt(t, d, 0, 6), openAt(t, d, 6, 6)
	lists(t, "P5.10", a, 0, pair{29, "one"})
	lists(t, "P5.10", b, 0, pair{58, two})
}
