package wheel_test

import (
	"runtime"
	"slices"
	"testing"
)

// TestAnswersAreNewLists: what is done to an answer, and to the room behind it, changes neither the wheel nor another answer.
func TestAnswersAreNewLists(t *testing.T) {
	w := at(t, 0)
	for id := range 6 {
		set(t, w, id, uint64(id/3+1))
		set(t, w, 10+id, 100)
	}
	a := w.Advance(1)
	b := w.Advance(2)
	for i := range a[:cap(a)] {
		a[:cap(a)][i] = 99
	}
	if !slices.Equal(b, []int{3, 4, 5}) {
		t.Errorf("P1001: two answers share memory: %v", b)
	}
	for i := range b[:cap(b)] {
		b[:cap(b)][i] = 99
	}
	is(t, w, 2, 6)
	rings(t, w, 100, 10, 11, 12, 13, 14, 15)
}

func heap() uint64 {
	runtime.GC()
	runtime.GC()
	var m runtime.MemStats
	runtime.ReadMemStats(&m)
	return m.HeapAlloc
}

// TestNothingIsKept: of timers that have rung, were stopped or were set anew, however many there were, no more than a little is left.
func TestNothingIsKept(t *testing.T) {
	w := at(t, 0)
	before := heap()
	for n := range uint64(300000) {
		set(t, w, 1, n*5+4096)
		set(t, w, int(n)+10, n*5+70)
		set(t, w, -int(n)-10, n*5+1<<20)
		stops(t, w, -int(n)-10, true)
		w.Advance(n * 5)
	}
	if w.Len() > 100 {
		t.Fatalf("P1008: %d timers are set", w.Len())
	}
	if after := heap(); after > before+1<<20 {
		t.Errorf("%d bytes are kept for %d timers", after-before, w.Len())
	}
	runtime.KeepAlive(w)
}

// TestNothingIsKeptOnTheWayDown: timers that have come down to the lowest wheel have left nothing behind on the higher ones.
func TestNothingIsKeptOnTheWayDown(t *testing.T) {
	const n = 100000
	w := at(t, 0)
	for id := range n {
		set(t, w, id, 1<<48-1)
	}
	before := heap()
	for k := 47; k > 0; k-- {
		rings(t, w, 1<<48-1<<k)
	}
	if after := heap(); after > before+4<<20 {
		t.Errorf("%d bytes more are kept for %d timers than at first", after-before, w.Len())
	}
	is(t, w, 1<<48-2, n)
}
