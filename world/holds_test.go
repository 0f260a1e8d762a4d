package world_test

import (
	"math/rand"
	"strings"
	"testing"

	"halyard/api"
	"halyard/world"
)

// story: a world in which all may come to pass, watched at each step.
func story(t *testing.T, r *rand.Rand, s world.Setup, length int) *watch {
	t.Helper()
	v := newWatch(t, s)
	for _, s := range opening(r) {
		v.step(s)
	}
	for range length {
		v.step(stroke(r, v.World))
		for n := 1; n <= 2; n++ {
			if !v.Node(n).Up() && r.Intn(5) == 0 {
				v.step(crashes(n, someChoices(r)...))
				if r.Intn(3) == 0 {
					v.step(cuts(n, r.Intn(4)))
				}
				v.step(restarts(n))
			}
		}
	}
	return v
}

// TestHolds: whatever comes to pass.
func TestHolds(t *testing.T) {
	t.Parallel()
	tally := map[string]int{}
	for seed := range int64(200) {
		r := rand.New(rand.NewSource(seed))
		v := story(t, r, someSetup(r), 500)
		for what, n := range v.tally {
			tally[what] += n
		}
	}
	for _, what := range []string{"falls", "stored", "shown", "rolled out", "found", "done in a fall"} {
		if tally[what] < 50 {
			t.Errorf("%s: %d times", what, tally[what])
		}
	}
	t.Log(tally)
}

// roomy: room for all that can be in two backlogs and two databases.
func roomy(r *rand.Rand) world.Setup {
	return world.Setup{Config: someConfig(r), Sectors: 3000, Room: api.MaxDatagrams, Start: someStart(r)}
}

// drains: from here on a fair end: all that is under way is delivered, the clock goes on, both are kicked.
func (v *watch) drains(next func() (n, way, place int)) {
	v.t.Helper()
	c := v.setup.Config
	for n := 1; n <= 2; n++ {
		v.step(cuts(n, -1))
		if !v.Node(n).Up() {
			v.step(crashes(n))
			v.step(restarts(n))
		}
	}
	for range c.Retries + 8 {
		for onWays(v.World) != [4]int{} {
			v.step(delivers(next()))
		}
		v.step(ticks(max(c.AckTime, c.RetryTime)))
		v.step(kicks(1))
		v.step(kicks(2))
	}
	for n := 1; n <= 2; n++ {
		if left := v.Node(n).Service().Backlog().Keys(); len(left) > 0 {
			v.fails("P5", "behind %d rounds %v are in the backlog of node %d", c.Retries+8, left, n)
		}
	}
}

// byChance: whichever datagram, as they come.
func (v *watch) byChance(r *rand.Rand) func() (n, way, place int) {
	return func() (int, int, int) {
		for {
			n, way := 1+r.Intn(2), 1+r.Intn(2)
			if l := len(v.Way(n, way)); l > 0 {
				return n, way, r.Intn(l)
			}
		}
	}
}

// first: the first datagram, or the last one, of the first way on which there is one; the ways in that order.
func (v *watch) first(order [4][2]int, last bool) func() (n, way, place int) {
	return func() (int, int, int) {
		for _, x := range order {
			if l := len(v.Way(x[0], x[1])); l > 0 && last {
				return x[0], x[1], l - 1
			} else if l > 0 {
				return x[0], x[1], 0
			}
		}
		panic("no datagram is under way")
	}
}

// orders: in which the ways may be emptied.
func orders() [][4][2]int {
	return [][4][2]int{{{1, 1}, {1, 2}, {2, 1}, {2, 2}}, {{2, 2}, {2, 1}, {1, 2}, {1, 1}}, {{1, 2}, {2, 2}, {1, 1}, {2, 1}}, {{1, 1}, {2, 1}, {2, 2}, {1, 2}}}
}

// TestAFairEndDrains: at whichever moment it begins, in whatever order the datagrams come.
func TestAFairEndDrains(t *testing.T) {
	t.Parallel()
	for seed := range int64(150) {
		r := rand.New(rand.NewSource(seed))
		v := story(t, r, roomy(r), r.Intn(300))
		if seed%3 > 0 {
			v.drains(v.byChance(r))
		} else {
			v.drains(v.first(orders()[r.Intn(4)], r.Intn(2) == 0))
		}
	}
}

// TestFullBacklogsDrain: so many frames as there may be, of as many segments as there may be.
func TestFullBacklogsDrain(t *testing.T) {
	t.Parallel()
	for seed := range int64(6) {
		r := rand.New(rand.NewSource(seed))
		s := roomy(r)
		s.Config.Mtu, s.Start = 16, 100
		v := newWatch(t, s)
		for n := 1; n <= 2; n++ {
			v.step(begins(n, 3))
			v.step(listens(n, 3, quota(64, api.MaxBytes)))
		}
		for i := range api.MaxPending {
			for n := 1; n <= 2; n++ {
				v.step(sends(n, 3, 100+uint64(r.Intn(i+1)), 100000, strings.Repeat("x", r.Intn(513))))
			}
			for range r.Intn(20) {
				if onWays(v.World) != [4]int{} {
					v.step(delivers(v.byChance(r)()))
				}
			}
			if r.Intn(20) == 0 {
				v.step(ticks(s.Config.RetryTime))
			}
		}
		if seed%2 == 0 {
			v.drains(v.byChance(r))
		} else {
			v.drains(v.first(orders()[r.Intn(4)], r.Intn(2) == 0))
		}
	}
}
