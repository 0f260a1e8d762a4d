package freight_test

import (
	"bytes"
	"runtime"
	"slices"
	"testing"

	"halyard/api"
)

// spoil: a list and the room behind it are written over.
func spoil(b []byte) {
	b = b[:cap(b)]
	for i := range b {
		b[i] ^= 0xff
	}
}

// TestBlocksAreNotKept: a block, and the room behind it, stays as it was, and what is done to it later changes nothing.
func TestBlocksAreNotKept(t *testing.T) {
	s := fresh(t, config(), 3, 100)
	all := text(60)
	want := bytes.Clone(all)
	queues(t, s, key(0, 1), all[:40])
	if !bytes.Equal(all, want) {
		t.Fatalf("P1501: the block stands in %v", all)
	}
	spoil(all)
	units := unitsOf(3, 1, want[:40], 16)
	n, l := s.Run(1, 100)
	if n != 1 || !slices.EqualFunc(l, units, sameUnit) {
		t.Fatalf("P1501: what waits shares memory with the block: %+v", l)
	}
	copy(all, want)
	for _, u := range l {
		spoil(u.Data)
	}
	if !bytes.Equal(all, want) {
		t.Errorf("P1501: the block shares memory with units")
	}
	sends(t, s, 110, units...)
}

// TestUnitsShareNothing: what is done to one unit's bytes changes neither another one's nor what is sent again.
func TestUnitsShareNothing(t *testing.T) {
	s := fresh(t, with(3, 2), 3, 100)
	block := text(100)
	queues(t, s, key(0, 1), block)
	queues(t, s, key(0, 2), block)
	want := slices.Concat(unitsOf(3, 1, block, 16), unitsOf(3, 2, block, 16))
	_, first := s.Run(1, 100)
	second, _ := s.Tick(110)
	for i := range first {
		spoil(first[i].Data)
		if !slices.EqualFunc(first[i+1:], want[i+1:], sameUnit) {
			t.Fatalf("P1501: the units behind %d share memory with it", i)
		}
	}
	clear(first[:cap(first)])
	third, _ := s.Tick(120)
	for i := range second {
		spoil(second[i].Data)
		if !slices.EqualFunc(second[i+1:], want[i+1:], sameUnit) {
			t.Fatalf("P1501: the units behind %d share memory with it", i)
		}
	}
	clear(second[:cap(second)])
	if !slices.EqualFunc(third, want, sameUnit) {
		t.Errorf("P1501: two answers share memory: %+v", third)
	}
	for _, u := range third {
		spoil(u.Data)
	}
	sends(t, s, 130, want...)
}

// TestReportsAreNotKept: neither is a unit that is heard changed, nor the room behind its lists; nor does it count what becomes of them later.
func TestReportsAreNotKept(t *testing.T) {
	s := fresh(t, with(3, 1), 3, 100)
	block := text(100)
	queues(t, s, key(0, 1), block)
	_, all := s.Run(1, 100)
	ranges := []api.Range{span(0, 1), span(3, 4), span(9, 2)}
	want := slices.Clone(ranges)
	u := report(3, 1, 0)
	for n := range ranges {
		u.Got = ranges[:n]
		ignores(t, s, u)
		if !slices.Equal(ranges, want) {
			t.Fatalf("P1501: a report's ranges are %v", ranges)
		}
	}
	copy(ranges, []api.Range{span(0, 64), span(0, 64), span(0, 64)})
	sends(t, s, 110, slices.Concat(all[1:3], all[4:])...)
}

// TestKeysAreNewLists: what is done to an answer changes neither the sender nor another answer.
func TestKeysAreNewLists(t *testing.T) {
	s := fresh(t, with(0, 4), 3, 100)
	var keys []api.Key
	for n := range uint64(8) {
		queues(t, s, key(0, n), []byte{1})
		keys = append(keys, key(0, n))
	}
	s.Run(1, 100)
	for _, ask := range []func() []api.Key{s.Busy, s.Waiting} {
		a, b := ask(), ask()
		want := slices.Clone(b)
		clear(a[:cap(a)])
		if !slices.Equal(b, want) || !slices.Equal(ask(), want) {
			t.Errorf("P1501: two answers share memory: %v", b)
		}
	}
	busy(t, s, keys[:4]...)
	waiting(t, s, keys[4:]...)
	under := s.Busy()
	_, lost := s.Tick(110)
	clear(under[:cap(under)])
	if !slices.Equal(lost, keys[:4]) {
		t.Errorf("P1501: two answers share memory: %v", lost)
	}
}

// TestAnswersStay: an answer does not change by what is called later.
func TestAnswersStay(t *testing.T) {
	s := fresh(t, with(1, 2), 3, 100)
	block := text(50)
	keys := []api.Key{key(0, 1), key(0, 2), key(0, 3), key(0, 4)}
	for _, k := range keys {
		queues(t, s, k, block)
	}
	want := slices.Concat(unitsOf(3, 1, block, 16), unitsOf(3, 2, block, 16))
	_, first := s.Run(1, 100)
	under, row := s.Busy(), s.Waiting()
	again, _ := s.Tick(110)
	_, lost := s.Tick(120)
	stops(t, s, keys[2], 0, true)
	queues(t, s, keys[0], text(70))
	s.Run(3, 120)
	s.Tick(130)
	s.Tick(140)
	if !slices.EqualFunc(first, want, sameUnit) || !slices.EqualFunc(again, want, sameUnit) {
		t.Errorf("P1501: units are %+v, %+v", first, again)
	}
	if !slices.Equal(under, keys[:2]) || !slices.Equal(row, keys[2:]) || !slices.Equal(lost, keys[:2]) {
		t.Errorf("P1501: answers are %v, %v, %v", under, row, lost)
	}
}

func heap() uint64 {
	runtime.GC()
	runtime.GC()
	var m runtime.MemStats
	runtime.ReadMemStats(&m)
	return m.HeapAlloc
}

// TestLittleIsKept: of what ended, however it did, and of what was refused, nothing is kept.
func TestLittleIsKept(t *testing.T) {
	before := heap()
	s := fresh(t, with(0, 8), 3, 0)
	block := text(1024)
	for n := uint64(1); n <= 50000; n++ {
		k := key(int(n%8), n)
		queues(t, s, k, block)
		refuses(t, s, k, block, api.ErrTwice)
		if n%5 == 0 {
			stops(t, s, k, 0, true) // it waited
			continue
		}
		s.Run(n, n)
		ignores(t, s, report(3, n, 0, span(0, 5)))
		switch n % 5 {
		case 1:
			hears(t, s, report(3, n, api.Stored), k)
		case 2:
			stops(t, s, k, n, true)
		default:
			s.Tick(n)
		}
	}
	s.Tick(api.MaxNumber)
	if after := heap(); after > before+1<<15 {
		t.Errorf("%d bytes are kept, where %d are under way and %d wait", after-before, len(s.Busy()), len(s.Waiting()))
	}
	runtime.KeepAlive(s)
}
