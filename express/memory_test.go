package express_test

import (
	"bytes"
	"runtime"
	"slices"
	"testing"

	"halyard/api"
)

// spoil: a list and the room behind it are written over.
func spoil(b []byte) {
	b = b[:cap(b)]
	for i := range b {
		b[i] ^= 0xff
	}
}

// TestBlocksAreNotKept: a block, and the room behind it, stays as it was, and shares nothing with the units.
func TestBlocksAreNotKept(t *testing.T) {
	s := fresh(t, config(), 3, 100)
	all := text(60)
	want := bytes.Clone(all)
	l, e := s.Begin(1, key(0, 1), all[:40], 100)
	if e != api.OK || !bytes.Equal(all, want) {
		t.Fatalf("P1401: Begin = %v; the block stands in %v", e, all)
	}
	spoil(all)
	if !slices.EqualFunc(l, unitsOf(3, 1, want[:40], 16), sameUnit) {
		t.Errorf("P1401: units share memory with the block: %+v", l)
	}
	copy(all, want)
	for _, u := range l {
		spoil(u.Data)
	}
	if !bytes.Equal(all, want) {
		t.Errorf("P1401: the block shares memory with units")
	}
}

// TestUnitsShareNothing: what is done to one unit's bytes changes no other one's, of the same or of another Begin.
func TestUnitsShareNothing(t *testing.T) {
	s := fresh(t, config(), 3, 100)
	block := text(100)
	first, _ := s.Begin(1, key(0, 1), block, 100)
	second, _ := s.Begin(2, key(0, 2), block, 100)
	for i := range first {
		spoil(first[i].Data)
		if want := unitsOf(3, 1, block, 16); i+1 < len(want) && !slices.EqualFunc(first[i+1:], want[i+1:], sameUnit) {
			t.Fatalf("P1401: the units behind %d share memory with it", i)
		}
	}
	clear(first[:cap(first)])
	if !slices.EqualFunc(second, unitsOf(3, 2, block, 16), sameUnit) {
		t.Errorf("P1401: two answers share memory: %+v", second)
	}
	ticks(t, s, 110, key(0, 1), key(0, 2))
}

// TestReportsAreNotChanged: neither a unit that is heard nor the room behind its lists.
func TestReportsAreNotChanged(t *testing.T) {
	s := fresh(t, config(), 3, 100)
	begins(t, s, 1, key(0, 1), 100)
	ranges := []api.Range{{From: 0, To: 1}, {From: 3, To: 4}, {From: 9, To: 2}}
	want := slices.Clone(ranges)
	u := report(3, 1, 0)
	for n := range ranges {
		u.Got = ranges[:n]
		ignores(t, s, u)
		if !slices.Equal(ranges, want) {
			t.Fatalf("P1401: a report's ranges are %v", ranges)
		}
	}
}

// TestKeysAreNewLists: what is done to an answer of Busy or Tick changes neither the sender nor another answer.
func TestKeysAreNewLists(t *testing.T) {
	s := fresh(t, config(), 3, 100)
	var keys []api.Key
	for n := range uint64(5) {
		begins(t, s, 1+n, key(0, n), 100+n)
		keys = append(keys, key(0, n))
	}
	a, b := s.Busy(), s.Busy()
	clear(a[:cap(a)])
	if !slices.Equal(b, keys) {
		t.Errorf("P1401: two answers share memory: %v", b)
	}
	c := s.Tick(111)
	d := s.Tick(113)
	clear(c[:cap(c)])
	if !slices.Equal(d, keys[2:4]) || !slices.Equal(b, keys) {
		t.Errorf("P1401: answers share memory: %v, %v", d, b)
	}
	clear(d[:cap(d)])
	busy(t, s, keys[4])
}

// TestAnswersStay: an answer does not change by what is called later.
func TestAnswersStay(t *testing.T) {
	s := fresh(t, config(), 3, 100)
	block := text(50)
	l, _ := s.Begin(1, key(0, 1), block, 100)
	begins(t, s, 2, key(0, 2), 100)
	a := s.Busy()
	stops(t, s, key(0, 1), 1)
	b := s.Tick(200)
	s.Begin(1, key(0, 3), text(70), 300)
	begins(t, s, 5, key(0, 4), 300)
	s.Tick(400)
	if !slices.EqualFunc(l, unitsOf(3, 1, block, 16), sameUnit) || !slices.Equal(a, []api.Key{key(0, 1), key(0, 2)}) || !slices.Equal(b, []api.Key{key(0, 2)}) {
		t.Errorf("P1401: answers are %+v, %v, %v", l, a, b)
	}
}

func heap() uint64 {
	runtime.GC()
	runtime.GC()
	var m runtime.MemStats
	runtime.ReadMemStats(&m)
	return m.HeapAlloc
}

// TestLittleIsKept: of sessions that ended, however they did, and of what was refused, nothing is kept; of those that are under way no block.
func TestLittleIsKept(t *testing.T) {
	before := heap()
	s := fresh(t, config(), 3, 0)
	for n := uint64(1); n <= 100000; n++ {
		k := key(int(n%8), n)
		if _, e := s.Begin(n, k, text(1024), n); e != api.OK {
			t.Fatalf("P1403: Begin(%d) = %v", n, e)
		}
		switch n % 4 {
		case 0:
			hears(t, s, report(3, n, api.Stored), k)
		case 1:
			stops(t, s, k, n)
		default:
			s.Tick(n)
		}
		refuses(t, s, 1<<48, k, []byte{1}, n, api.ErrArg)
	}
	if after := heap(); after > before+1<<16 {
		t.Errorf("%d bytes are kept for %d sessions", after-before, len(s.Busy()))
	}
	runtime.KeepAlive(s)
}
