package wheel_test

import (
	"math/rand"
	"slices"
	"testing"

	"halyard/api"
	"halyard/wheel"
)

// alike: are two wheels the same, as far as calls tell? They are gone on with until nothing is left.
func alike(t *testing.T, a, b *wheel.Wheel) {
	t.Helper()
	for {
		n, ok := a.Next()
		m, is := b.Next()
		if a.Now() != b.Now() || a.Len() != b.Len() || n != m || ok != is {
			t.Fatalf("P1007: Now %d, Len %d, Next %d, %v; at once: %d, %d, %d, %v", a.Now(), a.Len(), n, ok, b.Now(), b.Len(), m, is)
		}
		if !ok {
			return
		}
		if x, y := a.Advance(n), b.Advance(n); len(x) == 0 || !slices.Equal(x, y) {
			t.Fatalf("P1007: Advance(%d) = %v; at once: %v", n, x, y)
		}
	}
}

// filled: two wheels with the same timers, some of them with the same times.
func filled(t *testing.T, r *rand.Rand, from uint64) (a, b *wheel.Wheel) {
	a, b = at(t, from), at(t, from)
	for range 1 + r.Intn(40) {
		id, x := r.Intn(30), from+way(r)
		set(t, a, id, x)
		set(t, b, id, x)
	}
	return a, b
}

func TestInStepsOrAtOnce(t *testing.T) {
	for seed := range int64(4000) {
		r := rand.New(rand.NewSource(seed))
		from := way(r) >> r.Intn(50)
		a, b := filled(t, r, from)
		var rung []int
		to := from
		for range 1 + r.Intn(6) {
			if to = a.Now() + way(r); r.Intn(3) == 0 {
				to, _ = a.Next()
			}
			rung = append(rung, a.Advance(to)...)
		}
		if once := b.Advance(a.Now()); !slices.Equal(rung, once) {
			t.Fatalf("P1007: in steps %v, at once %v", rung, once)
		}
		for id := range 10 { // behind it they are called alike
			x := a.Now() + way(r)
			set(t, a, id, x)
			set(t, b, id, x)
		}
		alike(t, a, b)
	}
}

// TestTickByTick: each time for itself is the least step: what rings then is of just that time.
func TestTickByTick(t *testing.T) {
	for _, from := range []uint64{0, 4000, 64*64*64 - 100, api.MaxNumber - 9000} {
		w := at(t, from)
		for id := range 9000 {
			set(t, w, id, from+uint64(id*4219%9000)+1) // 4219 has no part with 9000: each time has one timer
		}
		back := make([]int, 9001)
		for id := range 9000 {
			back[id*4219%9000+1] = id
		}
		for d := uint64(1); d <= 9000; d++ {
			next(t, w, from+d)
			rings(t, w, from+d, back[d])
			is(t, w, from+d, 9000-int(d))
		}
		noNext(t, w)
	}
}

// TestEachOnce: each Set is told once, by the first Advance that comes to its time; one that is stopped or set anew is not.
func TestEachOnce(t *testing.T) {
	for seed := range int64(300) {
		r := rand.New(rand.NewSource(seed))
		w := at(t, 0)
		due := map[int]uint64{}
		for range 300 {
			id, now := r.Intn(50), w.Now()
			switch r.Intn(6) {
			case 0:
				_, set := due[id]
				stops(t, w, id, set)
				delete(due, id)
			case 1:
				to := now + uint64(r.Intn(1<<r.Intn(20)))
				for _, id := range w.Advance(to) {
					if x, set := due[id]; !set || x > to || x <= now {
						t.Fatalf("P1008: from %d Advance(%d) told %d, of the time %d (set: %v)", now, to, id, x, set)
					}
					delete(due, id)
				}
				for id, x := range due {
					if x <= to {
						t.Fatalf("P1008: Advance(%d) did not tell %d, of the time %d", to, id, x)
					}
				}
			default:
				x := now + 1 + uint64(r.Intn(1<<r.Intn(20)))
				set(t, w, id, x)
				due[id] = x
			}
		}
	}
}

// TestLongWays: whoever goes from time to time, or from slot to slot, does not come to an end here.
func TestLongWays(t *testing.T) {
	for range 20000 {
		w := at(t, 0)
		set(t, w, 1, api.MaxNumber)
		rings(t, w, 1<<47)
		next(t, w, api.MaxNumber)
		rings(t, w, api.MaxNumber, 1)
	}
	w := at(t, 0)
	set(t, w, 1, api.MaxNumber-1)
	for n := uint64(0); n < 200000; n++ { // steps of a milliard each, with a timer that goes along
		now := n << 30
		set(t, w, 2, now+1<<29)
		rings(t, w, now+1<<30, 2)
		is(t, w, now+1<<30, 1)
	}
	rings(t, w, api.MaxNumber, 1)
}

// TestLongWaysAllocateAsShortOnes: the length of a way is no cost: counted in pieces of memory, which no clock can spoil.
func TestLongWaysAllocateAsShortOnes(t *testing.T) {
	cost := func(way uint64) float64 {
		return testing.AllocsPerRun(100, func() {
			w, _ := wheel.New(0)
			w.Set(1, way)
			w.Set(2, way)
			if a := w.Advance(way); len(a) != 2 {
				t.Fatalf("P1009: Advance(%d) = %v", way, a)
			}
		})
	}
	short := cost(1)
	for _, way := range []uint64{64, 1 << 20, 1 << 40, api.MaxNumber} {
		if long := cost(way); long > short+2 {
			t.Errorf("P1009: a way of 1 costs %v, one of %d %v", short, way, long)
		}
	}
}

// TestManyTimers: so many that whoever looks through all of them at each call is not done in time.
func TestManyTimers(t *testing.T) {
	const n = 100000
	w := at(t, 0)
	for id := range n {
		set(t, w, id, uint64(id)*1000003+1)
	}
	for id := range n {
		if id%2 == 0 {
			stops(t, w, id, true)
		}
	}
	is(t, w, 0, n/2)
	for id := 1; id < n; id += 2 {
		rings(t, w, uint64(id)*1000003)
		rings(t, w, uint64(id)*1000003+1, id)
	}
	is(t, w, (n-1)*1000003+1, 0)
}
