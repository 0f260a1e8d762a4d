package wheel_test

import (
	"math"
	"slices"
	"testing"

	"halyard/api"
	"halyard/wheel"
)

const most = api.MaxNumber

// beyond: times that count as MaxNumber.
var beyond = []uint64{most, most + 1, most + 2, 1<<49 - 1, 1 << 50, 1 << 63, math.MaxUint64 - 1, math.MaxUint64}

func at(t *testing.T, now uint64) *wheel.Wheel {
	t.Helper()
	w, e := wheel.New(now)
	if w == nil || e != api.OK {
		t.Fatalf("P1002: New(%d) = %v, %v", now, w, e)
	}
	return w
}

func set(t *testing.T, w *wheel.Wheel, id int, at uint64) {
	t.Helper()
	if e := w.Set(id, at); e != api.OK {
		t.Fatalf("P1003: Set(%d, %d) = %v", id, at, e)
	}
}

func stops(t *testing.T, w *wheel.Wheel, id int, want bool) {
	t.Helper()
	if got := w.Stop(id); got != want {
		t.Fatalf("P1004: Stop(%d) = %v", id, got)
	}
}

func rings(t *testing.T, w *wheel.Wheel, now uint64, want ...int) {
	t.Helper()
	if got := w.Advance(now); !slices.Equal(got, want) {
		t.Fatalf("P1005: Advance(%d) = %v, want %v", now, got, want)
	}
}

func next(t *testing.T, w *wheel.Wheel, want uint64) {
	t.Helper()
	if n, ok := w.Next(); n != want || !ok {
		t.Fatalf("P1006: Next() = %d, %v, want %d", n, ok, want)
	}
}

func noNext(t *testing.T, w *wheel.Wheel) {
	t.Helper()
	if n, ok := w.Next(); n != 0 || ok {
		t.Fatalf("P1006: Next() = %d, %v, want none", n, ok)
	}
}

// is: the wheel's time, and how many are set.
func is(t *testing.T, w *wheel.Wheel, now uint64, set int) {
	t.Helper()
	if w.Now() != now || w.Len() != set {
		t.Fatalf("P1002: Now %d, Len %d, want %d, %d", w.Now(), w.Len(), now, set)
	}
}

func TestExamples(t *testing.T) {
	w := at(t, 10)
	set(t, w, 1, 12)
	set(t, w, 2, 11)
	set(t, w, 3, 12)
	set(t, w, 4, 5)
	next(t, w, 11)
	is(t, w, 10, 4)
	rings(t, w, 11, 2, 4)
	rings(t, w, 20, 1, 3)
	is(t, w, 20, 0)
	noNext(t, w)

	w = at(t, 0)
	set(t, w, 1, 5)
	set(t, w, 2, 5)
	set(t, w, 1, 5)
	rings(t, w, 5, 2, 1)

	w = at(t, 0)
	set(t, w, -7, 1)
	stops(t, w, -7, true)
	stops(t, w, -7, false)
	rings(t, w, 9)
	is(t, w, 9, 0)
	rings(t, w, 3)
	is(t, w, 9, 0)

	w = at(t, 0)
	set(t, w, 1, math.MaxUint64)
	next(t, w, most)
	rings(t, w, most-1)
	rings(t, w, math.MaxUint64, 1)
	is(t, w, most, 0)
	set(t, w, 1, 3)
	is(t, w, most, 1)
	noNext(t, w)
	rings(t, w, math.MaxUint64)

	w = at(t, 0)
	set(t, w, 1, 1)
	set(t, w, 2, 1<<40)
	rings(t, w, 1, 1)
	rings(t, w, 1<<40, 2)
}

func TestAWheelThatNewDidNotMake(t *testing.T) {
	for name, w := range map[string]*wheel.Wheel{"nil": nil, "zero": {}} {
		for _, id := range []int{math.MinInt, -1, 0, 1, math.MaxInt} {
			for _, x := range append([]uint64{0, 1, 9}, beyond...) {
				if e := w.Set(id, x); e != api.ErrArg {
					t.Errorf("P1001: %s: Set(%d, %d) = %v", name, id, x, e)
				}
				if w.Stop(id) {
					t.Errorf("P1001: %s: Stop(%d): true", name, id)
				}
				if a := w.Advance(x); len(a) != 0 {
					t.Errorf("P1001: %s: Advance(%d) = %v", name, x, a)
				}
				if n, ok := w.Next(); w.Now() != 0 || w.Len() != 0 || n != 0 || ok {
					t.Errorf("P1001: %s: Now %d, Len %d, Next %d, %v", name, w.Now(), w.Len(), n, ok)
				}
			}
		}
	}
}

func TestNewHasTheTime(t *testing.T) {
	for _, now := range []uint64{0, 1, 63, 64, 1 << 40, most - 1} {
		w := at(t, now)
		is(t, w, now, 0)
		noNext(t, w)
		rings(t, w, now)
		is(t, w, now, 0)
	}
	for _, now := range beyond {
		w := at(t, now)
		is(t, w, most, 0)
		noNext(t, w)
	}
}

func TestWheelsAreApart(t *testing.T) {
	a, b := at(t, 0), at(t, 0)
	set(t, a, 1, 5)
	is(t, b, 0, 0)
	stops(t, b, 1, false)
	rings(t, b, 9)
	is(t, a, 0, 1)
	rings(t, a, 5, 1)
}

// TestATimeThatIsNotAboveNow: the next time on.
func TestATimeThatIsNotAboveNow(t *testing.T) {
	for _, now := range []uint64{1, 10, 62, 63, 64, 4095, 4096, 1<<30 - 1, most - 1} {
		for _, x := range []uint64{0, 1, now - 1, now} {
			w := at(t, now)
			set(t, w, 1, x)
			next(t, w, now+1)
			rings(t, w, now)
			is(t, w, now, 1)
			rings(t, w, now+1, 1)
			is(t, w, now+1, 0)
		}
		w := at(t, now)
		set(t, w, 1, now+1)
		next(t, w, now+1)
		rings(t, w, now+1, 1)
	}
}

func TestAnyNumberIsATimer(t *testing.T) {
	w := at(t, 0)
	ids := []int{math.MaxInt, math.MinInt, 0, -1, 1 << 40, -(1 << 40), 7}
	for _, id := range ids {
		set(t, w, id, 70)
	}
	is(t, w, 0, len(ids))
	stops(t, w, 8, false)
	stops(t, w, -7, false)
	rings(t, w, 70, ids...)
	for _, id := range ids {
		stops(t, w, id, false)
	}
}

// TestSetAnew: the old time is forgotten, be the new one later, sooner or the same; in the order it counts anew.
func TestSetAnew(t *testing.T) {
	w := at(t, 0)
	set(t, w, 1, 5)
	set(t, w, 1, 500)
	is(t, w, 0, 1)
	next(t, w, 500)
	rings(t, w, 499)
	rings(t, w, 500, 1)

	w = at(t, 0)
	set(t, w, 1, 500)
	set(t, w, 1, 5)
	is(t, w, 0, 1)
	next(t, w, 5)
	rings(t, w, 5, 1)
	rings(t, w, 500)

	w = at(t, 0)
	for _, id := range []int{1, 2, 3, 4, 1, 3} {
		set(t, w, id, 64)
	}
	is(t, w, 0, 4)
	rings(t, w, 64, 2, 4, 1, 3)

	w = at(t, 0)
	set(t, w, 1, 64)
	set(t, w, 2, 64)
	set(t, w, 1, 9)
	set(t, w, 1, 64)
	rings(t, w, 64, 2, 1)
}

// TestSetAgainBehindItsRing: a timer that has rung, or was stopped, is like one that never was.
func TestSetAgainBehindItsRing(t *testing.T) {
	w := at(t, 0)
	set(t, w, 1, 3)
	set(t, w, 2, 3)
	rings(t, w, 3, 1, 2)
	stops(t, w, 1, false)
	set(t, w, 2, 9)
	set(t, w, 1, 9)
	rings(t, w, 9, 2, 1)
	set(t, w, 1, 20)
	set(t, w, 2, 20)
	stops(t, w, 1, true)
	set(t, w, 1, 20)
	rings(t, w, 20, 2, 1)
}

// TestStopIsOfOneTimer: whichever of a slot's timers is stopped, the others ring, in their order.
func TestStopIsOfOneTimer(t *testing.T) {
	for gone := range 5 {
		for then := range 5 {
			w := at(t, 0)
			var want []int
			for id := range 5 {
				set(t, w, id, 200)
				if id != gone && id != then {
					want = append(want, id)
				}
			}
			stops(t, w, gone, true)
			stops(t, w, gone, false)
			stops(t, w, then, then != gone)
			is(t, w, 0, len(want))
			next(t, w, 200)
			rings(t, w, 199)
			rings(t, w, 200, want...)
			is(t, w, 200, 0)
		}
	}
}

func TestAdvanceNotAbove(t *testing.T) {
	w := at(t, 100)
	set(t, w, 1, 50)
	set(t, w, 2, 150)
	for _, now := range []uint64{0, 1, 50, 99, 100} {
		rings(t, w, now)
		is(t, w, 100, 2)
		next(t, w, 101)
	}
	rings(t, w, 101, 1)
	rings(t, w, 150, 2)
	w = at(t, most)
	for _, now := range beyond {
		rings(t, w, now)
		is(t, w, most, 0)
	}
}

// TestOrderIsOfTheLastSets: also of timers that were set at unlike times of the wheel, and so came down from unlike wheels.
func TestOrderIsOfTheLastSets(t *testing.T) {
	const far = 64*64*64 + 64*64*2 + 64*3 + 4
	w := at(t, 0)
	set(t, w, 9, far)
	rings(t, w, 64*64*64)
	set(t, w, 3, far)
	rings(t, w, 64*64*64+64*64*2)
	set(t, w, 7, far)
	set(t, w, 6, far+1)
	rings(t, w, far-2)
	set(t, w, 1, far)
	set(t, w, 8, far-1)
	set(t, w, 5, far)
	rings(t, w, far+1, 8, 9, 3, 7, 1, 5, 6)
}

// TestByTimesNotBySets: the last one that is set rings first.
func TestByTimesNotBySets(t *testing.T) {
	w := at(t, 0)
	var want []int
	for id := range 200 {
		set(t, w, id, uint64(1000-id))
		want = append(want, 199-id)
	}
	next(t, w, 801)
	rings(t, w, 1000, want...)
}

// TestNeverRings: timers that are set at MaxNumber: there, and heard of by nobody.
func TestNeverRings(t *testing.T) {
	w := at(t, most-1)
	set(t, w, 1, 0)
	next(t, w, most)
	rings(t, w, most, 1)
	for _, x := range append([]uint64{0, 1, most - 1}, beyond...) {
		set(t, w, int(x&0xffff), x)
		noNext(t, w)
	}
	n := w.Len()
	if n < 4 {
		t.Fatalf("P1002: Len %d", n)
	}
	for _, now := range beyond {
		rings(t, w, now)
		is(t, w, most, n)
	}
	set(t, w, 0, 5)
	is(t, w, most, n)
	stops(t, w, 0, true)
	stops(t, w, 0, false)
	is(t, w, most, n-1)
	noNext(t, w)
}

// TestBeyondIsMaxNumber: times above MaxNumber are of one time, and in their order.
func TestBeyondIsMaxNumber(t *testing.T) {
	for _, now := range []uint64{0, 1, most - 1} {
		for _, end := range beyond {
			w := at(t, now)
			var want []int
			for i, x := range beyond {
				set(t, w, -i, x)
				want = append(want, -i)
			}
			next(t, w, most)
			rings(t, w, most-1)
			rings(t, w, end, want...)
			is(t, w, most, 0)
			noNext(t, w)
		}
	}
}

// TestNextIsTheLeast: of many times about all powers of two, as they ring one by one and as they are stopped.
func TestNextIsTheLeast(t *testing.T) {
	for _, from := range []uint64{0, 63, 64*64 - 1, 1<<30 + 5} {
		rung, stopped := at(t, from), at(t, from)
		var times []uint64
		for k := range 47 {
			for d := range uint64(3) {
				times = append(times, from+1<<k+d)
			}
		}
		for i := range times {
			i = (i*50 + 7) % len(times) // 141 has no part with 50: each comes once, in a mixed order
			set(t, rung, i, times[i])
			set(t, stopped, i, times[i])
		}
		slices.Sort(times)
		for i, x := range times {
			next(t, stopped, x)
			if i == 0 || times[i-1] != x {
				next(t, rung, x)
				if got := rung.Advance(x); len(got) == 0 {
					t.Fatalf("P1005: Advance(%d): none", x)
				}
			}
			stopOneOf(t, stopped, from, x)
		}
		noNext(t, rung)
		noNext(t, stopped)
	}
}

// stopOneOf: of TestNextIsTheLeast's timers one of that time.
func stopOneOf(t *testing.T, w *wheel.Wheel, from, x uint64) {
	t.Helper()
	for k := range 47 {
		for d := range uint64(3) {
			if from+1<<k+d == x && w.Stop(3*k+int(d)) {
				return
			}
		}
	}
	t.Fatalf("P1004: no timer of the time %d was set", x)
}
