package table_test

import (
	"math/rand"
	"slices"
	"testing"

	"halyard/api"
	"halyard/disk"
	"halyard/table"
)

// story: what a table must still know, told by what its calls answered; one Table at a time.
type story struct {
	t     *testing.T
	d     *disk.Disk
	x     *table.Table
	epoch uint64
	had   []map[string]string // the pairs behind each batch of this life, from what Open found on
	kept  int                 // the pairs that had[kept] has last, at least
	fell  bool
	most  int // the capacity
}

func newStory(t *testing.T, size int) *story {
	return &story{t: t, d: formatted(t, size), had: []map[string]string{{}}, most: plainCapacity(size)}
}

// fork: the same story on a disk of its own; behind a crash, where a disk is its image.
func (s *story) fork() *story {
	other := *s
	other.d, _ = disk.Load(s.d.Image())
	other.had = slices.Clone(s.had)
	return &other
}

func (s *story) now() map[string]string { return s.had[len(s.had)-1] }

// tableText: all that a table has, as section 6.2 says.
func tableText(x *table.Table) (s string) {
	for k, v := range x.Walk(nil, nil) {
		s += plainList(string(k)) + plainList(string(v))
	}
	return s
}

// open: false, if the power was gone in the midst.
func (s *story) open() bool {
	s.t.Helper()
	x, e := table.Open(s.d, 0, s.d.Sectors())
	if e == api.ErrPower {
		return false
	}
	if e != api.OK {
		s.t.Fatalf("P6.9: Open answers %d", e)
	}
	if x.Epoch() <= s.epoch || x.Unflushed() != 0 {
		s.t.Fatalf("P6.2: epoch %d behind %d, Unflushed %d", x.Epoch(), s.epoch, x.Unflushed())
	}
	text := tableText(x)
	found := slices.IndexFunc(s.had[s.kept:], func(pairs map[string]string) bool { return plainText(pairs) == text })
	if found < 0 {
		s.t.Fatalf("P6.8: %d bytes are there, of %d batches, %d of them flushed", len(text), len(s.had)-1, s.kept)
	}
	s.x, s.epoch, s.fell = x, x.Epoch(), false
	s.had, s.kept = s.had[s.kept+found:s.kept+found+1], 0
	s.looks()
	return true
}

// looks: what it tells hangs on the batches alone.
func (s *story) looks() {
	s.t.Helper()
	pairs := s.now()
	text := plainText(pairs)
	if tableText(s.x) != text || s.x.Len() != len(pairs) || s.x.Live() != len(text) || s.x.Room() != s.most-len(text) {
		s.t.Fatalf("P6.12: Len %d, Live %d, Room %d, want %d, %d", s.x.Len(), s.x.Live(), s.x.Room(), len(pairs), len(text))
	}
}

func (s *story) commit(batch ...table.Change) api.Errno {
	s.t.Helper()
	pairs := behind(s.now(), batch)
	full := len(plainText(pairs)) > s.most
	e := s.x.Commit(batch...)
	switch {
	case s.fell && e != api.ErrPower, !s.fell && e != api.ErrPower && (e == api.ErrFull) != full, e != api.OK && e != api.ErrPower && e != api.ErrFull:
		s.t.Fatalf("P6.10: Commit answers %d, Room %d", e, s.x.Room())
	case e == api.OK:
		s.had = append(s.had, pairs)
	}
	s.fell = e == api.ErrPower
	// All but the unflushed ones last, also where a checkpoint was broken off.
	s.kept = max(s.kept, len(s.had)-1-s.x.Unflushed())
	s.looks()
	return e
}

func (s *story) flush() api.Errno {
	s.t.Helper()
	e := s.x.Flush()
	if s.fell && e != api.ErrPower || e != api.OK && e != api.ErrPower {
		s.t.Fatalf("P6.4: Flush answers %d", e)
	}
	if e == api.OK {
		s.kept = len(s.had) - 1
	}
	s.fell = e == api.ErrPower
	return e
}

// do: one call by its letter.
func (s *story) do(c byte) {
	s.t.Helper()
	switch c {
	case 'a':
		s.commit(put("a", "1"))
	case 'b':
		s.commit(put("b", letters(60)), gone("a"))
	case 'c':
		s.commit(put("c", letters(150)), gone("b"))
	case 'd':
		s.commit(put("a", "2"), put("d", letters(95)), gone("c"))
	case '-':
		s.commit(gone("a"), gone("b"), gone("c"), gone("d"))
	case 'f':
		s.flush()
	}
}

// life: from one crash to the next: with a fuse the table is opened, and these calls are made.
func (s *story) life(fuse int, calls string) {
	s.t.Helper()
	s.d.Cut(fuse)
	if !s.open() {
		return
	}
	for _, c := range []byte(calls) {
		s.do(c)
	}
}

// everyCrash: all choices for the dirty sectors: as it was, each version, unreadable.
func everyCrash(d *disk.Disk, then func(choices []int)) {
	_, versions := d.Dirty()
	choices := make([]int, len(versions))
	var from func(k int)
	from = func(k int) {
		if k == len(versions) {
			then(choices)
			return
		}
		for c := -1; c <= versions[k]; c++ {
			choices[k] = c
			from(k + 1)
		}
	}
	from(0)
}

// everyLife: each of the plan's first lives with every fuse and every crash, then each of the next ones; at the end the table opens. It tells how many ends there were.
func (s *story) everyLife(plan ...[]string) (ends int) {
	s.t.Helper()
	if len(plan) == 0 {
		if !s.open() {
			s.t.Fatal("P6.9: Open with power answers ErrPower")
		}
		return 1
	}
	for _, calls := range plan[0] {
		for fuse := 0; ; fuse++ {
			once := s.fork()
			once.life(fuse, calls)
			everyCrash(once.d, func(choices []int) {
				next := s.fork()
				next.life(fuse, calls)
				next.d.Crash(choices)
				ends += next.fork().everyLife(plan[1:]...)
			})
			if !once.d.Down() {
				break
			}
		}
	}
	return ends
}

// nearTheEnd: a table behind so many batches, flushed, with the last one still standing: the next checkpoint is near.
func nearTheEnd(t *testing.T, size, batches int, calls string) *story {
	t.Helper()
	s := newStory(t, size)
	s.open()
	for i := range batches {
		s.do("ab-"[i%3])
	}
	for _, c := range []byte(calls) {
		s.do(c)
	}
	s.flush()
	s.d.Crash(nil)
	return s
}

func TestEveryCrash(t *testing.T) {
	ends := newStory(t, 83).everyLife([]string{"abf", "a-bf"}, []string{""})
	// The ring of 81 sectors: a checkpoint comes when fewer are free than the batch and one more takes.
	ends += nearTheEnd(t, 83, 79, "").everyLife([]string{"ab", "afb"}, []string{"a-"})
	ends += nearTheEnd(t, 83, 78, "").everyLife([]string{"aab"}, []string{"b"})
	// Of 83: with more than one piece.
	ends += nearTheEnd(t, 85, 74, "c").everyLife([]string{"acd", "cfd"}, []string{"c"})
	ends += nearTheEnd(t, 85, 75, "c").everyLife([]string{"dc", "-a"}, []string{""})
	ends += nearTheEnd(t, 85, 76, "c").everyLife([]string{"d"}, []string{"c"}, []string{""})
	t.Log(ends, "ends")
	if ends < 3000 {
		t.Error("few ends")
	}
}

// someCrash: mostly choices of versions that are there; or a first part of what was written, or the other ones.
func someCrash(r *rand.Rand, d *disk.Disk) (out []int) {
	sectors, _ := d.Dirty()
	kind, cut := r.Intn(4), r.Intn(len(sectors)+1)
	for i := range sectors {
		switch {
		case kind == 0 && i >= cut, kind == 1 && i < cut:
			out = append(out, 0)
		case kind == 2 && r.Intn(9) == 0:
			out = append(out, r.Intn(2)-1)
		default:
			out = append(out, 1+r.Intn(9)/8)
		}
	}
	return out
}

func someChange(r *rand.Rand, keys, most int) table.Change {
	c := table.Change{Key: []byte{'k', byte(r.Intn(keys))}, Gone: r.Intn(5) == 0}
	c.Value = []byte(letters(r.Intn(most + 1)))
	if len(c.Value) > 0 {
		c.Value[0] = byte(r.Intn(256))
	}
	return c
}

// Tables of one part, and of some, through many lives.
func TestManyLives(t *testing.T) {
	r := rand.New(rand.NewSource(61))
	for _, c := range []struct{ size, keys, most, lives, commits int }{
		{83, 6, 30, 300, 60}, {84, 3, 120, 200, 40}, {100, 9, 300, 200, 30}, {260, 20, 1024, 40, 30}, {420, 40, 1024, 40, 30}, {800, 80, 1024, 25, 60},
	} {
		s := newStory(t, c.size)
		for range c.lives {
			s.d.Cut(r.Intn(c.size*3) - 5)
			if s.open() {
				for range r.Intn(c.commits + 1) {
					var batch []table.Change
					for range 1 + r.Intn(5) {
						batch = append(batch, someChange(r, c.keys, c.most))
					}
					s.commit(batch...)
					if r.Intn(5) == 0 {
						s.flush()
					}
				}
			}
			s.d.Crash(someCrash(r, s.d))
		}
		if !s.open() {
			t.Fatal("P6.9")
		}
	}
}

// A checkpoint of three parts, broken off behind each of its operations, and by crashes that keep more or less of it; then Open's ending of it too.
func TestBrokenCheckpoint(t *testing.T) {
	r := rand.New(rand.NewSource(62))
	s := newStory(t, 700)
	s.open()
	for i := range 20 {
		s.commit(put(string(rune('a'+i)), letters(1000)))
	}
	for s.x.Unflushed() > 0 { // up to the first checkpoint
		s.flush()
		image := s.fork()
		if s.commit(put("a", letters(1000))); s.x.Unflushed() == 1 && checkpointed(t, s.d, image.d) {
			s = image
			break
		}
	}
	broken := 0
	for fuse := 0; fuse < 450; fuse += 1 + r.Intn(4) {
		once := s.fork()
		once.open()
		once.d.Cut(fuse)
		if once.commit(put("a", letters(999))) == api.ErrPower {
			broken++
		}
		once.d.Crash(someCrash(r, once.d))
		for range 2 {
			once.life(r.Intn(300), "")
			once.d.Crash(someCrash(r, once.d))
		}
		if !once.open() {
			t.Fatal("P6.9")
		}
	}
	if broken < 50 {
		t.Errorf("%d were broken off", broken)
	}
}

// checkpointed: does the log begin elsewhere than it did?
func checkpointed(t *testing.T, d, was *disk.Disk) bool {
	t.Helper()
	a, _ := disk.Load(d.Image())
	b, _ := disk.Load(was.Image())
	return openLog(t, a).First() != openLog(t, b).First()
}

// More than 127 parts: their numbers have two bytes.
func TestGreatTable(t *testing.T) {
	d := formatted(t, 21000)
	x := open(t, d)
	capacity := x.Room()
	value := letters(1000)
	n := 0
	key := func(i int) string { return string([]byte{byte(i / 256), byte(i)}) }
	for x.Room() >= 7*1005 {
		var batch []table.Change
		for range 7 {
			batch = append(batch, put(key(n), value))
			n++
		}
		is(t, "P6.3", x.Commit(batch...), api.OK)
	}
	if x.Live() <= 128*8112 || x.Len() != n || x.Live() != n*1005 || x.Room() != capacity-x.Live() {
		t.Fatalf("P6.6: Len %d, Live %d, Room %d", x.Len(), x.Live(), x.Room())
	}
	is(t, "P6.4", x.Flush(), api.OK)
	is(t, "P6.3", x.Commit(gone("nobody")), api.OK)
	for i := 0; x.Unflushed() > 1 || i == 0; i++ { // a checkpoint flushes what is ahead of it
		is(t, "P6.10", x.Commit(put(key(i), value[:999]), put(key(i+300), value[:998])), api.OK)
		if i > 300 {
			t.Fatal("P6.3: there was no checkpoint")
		}
	}
	want := tableText(x)
	is(t, "P6.4", x.Flush(), api.OK)
	d.Crash(nil)
	if y := open(t, d); tableText(y) != want || y.Live() != len(want) {
		t.Error("P6.8: a great table is another one")
	}
}

// A Format that the power broke off: what was there, no log, no table, or the empty table.
func TestBrokenFormat(t *testing.T) {
	r := rand.New(rand.NewSource(63))
	old := newStory(t, 90)
	old.open()
	old.commit(put("a", "old"), put("b", letters(100)))
	old.flush()
	old.commit(gone("b"))
	old.d.Crash([]int{1})
	was := plainText(old.now())
	seen := map[string]int{}
	for fuse := range 100 {
		for range 12 {
			s := old.fork()
			s.d.Cut(fuse)
			e := table.Format(s.d, 0, 90)
			// The slots' wiping 2 + 2, the ring's 88 + 1, a head 2, Open's head 2, the record 1, a flush 1.
			if (e == api.OK) != (fuse >= 99) || e != api.OK && e != api.ErrPower {
				t.Fatalf("P6.1: Format with power for %d operations: %d", fuse, e)
			}
			s.d.Crash(someCrash(r, s.d))
			x, f := table.Open(s.d, 0, 90)
			switch {
			case f == api.ErrLog:
				seen["ErrLog"]++
			case f == api.ErrTable:
				seen["ErrTable"]++
			case f != api.OK:
				t.Fatalf("P6.11: Open answers %d", f)
			case tableText(x) == was:
				seen["old"]++
			case x.Len() == 0 && x.Live() == 0:
				seen["empty"]++
			default:
				t.Fatalf("P6.11: a table of %d bytes", x.Live())
			}
			if e == api.OK && (f != api.OK || x.Len() > 0) {
				t.Fatalf("P6.9: behind a Format that answered OK: %d", f)
			}
		}
	}
	for _, what := range []string{"ErrLog", "ErrTable", "old", "empty"} {
		if seen[what] == 0 {
			t.Errorf("P6.11: %s did not come up", what)
		}
	}
}

// The same batches on two tables of one capacity, with sectors and rings of their own; one is flushed, opened anew and crashed behind flushes as it goes, and has others committed that are refused.
func TestTheSameTable(t *testing.T) {
	r := rand.New(rand.NewSource(64))
	d, other := formatted(t, 99), newDisk(t, 110)
	is(t, "P6.1", table.Format(other, 7, 100), api.OK)
	x := open(t, d)
	y, _ := table.Open(other, 7, 100)
	for range 1500 {
		var batch []table.Change
		for range r.Intn(4) {
			batch = append(batch, someChange(r, 12, 200))
		}
		e := x.Commit(batch...)
		is(t, "P6.12", y.Commit(batch...), e)
		if tableText(x) != tableText(y) || x.Len() != y.Len() || x.Live() != y.Live() || x.Room() != y.Room() {
			t.Fatal("P6.12: two tables with the same batches are unlike")
		}
		switch r.Intn(9) {
		case 0:
			is(t, "P6.4", y.Flush(), api.OK)
		case 1:
			is(t, "P6.3: refused", y.Commit(put("", "")), api.ErrArg)
			is(t, "P6.3: refused", y.Commit(put("q", letters(1000))), api.ErrFull)
		case 2:
			is(t, "P6.4", y.Flush(), api.OK)
			other.Crash(nil)
			y, e = table.Open(other, 7, 100)
			is(t, "P6.9", e, api.OK)
		case 3: // without a crash nothing is lost
			y, e = table.Open(other, 7, 100)
			is(t, "P6.9", e, api.OK)
		}
	}
}

// Batches that an Open has found last, whether they were flushed or not.
func TestFoundLasts(t *testing.T) {
	d := formatted(t, 83)
	x := open(t, d)
	is(t, "P6.3", x.Commit(put("a", "1")), api.OK)
	is(t, "P6.3", x.Commit(put("b", "2")), api.OK)
	d.Crash([]int{1, 0})
	has(t, "P6.8: a first part", open(t, d), "a=1")
	for _, choices := range [][]int{nil, {0}, {-1}, {1}} {
		x = open(t, d)
		has(t, "P6.8: what an Open has found", x, "a=1")
		is(t, "P6.3", x.Commit(put("c", "3")), api.OK)
		is(t, "P6.3", x.Commit(gone("c")), api.OK)
		d.Crash(choices)
	}
}
