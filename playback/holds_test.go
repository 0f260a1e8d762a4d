package playback_test

import (
	"math/rand"
	"slices"
	"testing"

	"halyard/api"
	"halyard/playback"
	"halyard/streamdb"
)

// stampsOf: of a stream's frames, in their order.
func stampsOf(db *streamdb.DB, stream int) (out []api.Stamp) {
	for f := range db.Frames(stream) {
		out = append(out, f.Stamp)
	}
	return out
}

// filled: a database by chance, and a player over it.
func filled(t *testing.T, r *rand.Rand, frames int) (*streamdb.DB, *playback.Player) {
	t.Helper()
	db, p := with(t)
	c := &chance{r, 1, 1 + uint64(r.Intn(40)), 1 + uint64(r.Intn(40)), r.Intn(3) == 0}
	for range frames {
		db.Insert(framed(0, at(c.number(c.times), c.number(c.seqs))), 0, false)
	}
	return db, p
}

// along: what a move tells, till it tells ErrNone.
func along(t *testing.T, m move, cursor int) (out []api.Frame) {
	t.Helper()
	for range api.MaxCount + 1 {
		f, e := m(cursor)
		if e == api.ErrNone {
			return out
		}
		if e != api.OK {
			t.Fatalf("P1806: %d", e)
		}
		out = append(out, f)
	}
	t.Fatalf("P1806: more than %d frames", api.MaxCount)
	return nil
}

// TestWholeScan: Next from the front on gives all frames, each once; then Prev all but the last one, the other way round; wherever the cursor stood before.
func TestWholeScan(t *testing.T) {
	for seed := range int64(200) {
		r := rand.New(rand.NewSource(seed))
		db, p := filled(t, r, r.Intn(70))
		all := slices.Collect(db.Frames(0))
		for n := 1; n <= 3; n++ {
			opens(t, p, 0, n)
		}
		for n := 3; n > 0; n-- {
			p.Seek(n, uint64(r.Intn(40)))
			is(t, "P1804: Rewind", p.Rewind(n), api.OK)
			if got := along(t, p.Next, n); !slices.EqualFunc(got, all, same) {
				t.Fatalf("P1806: Next gives %v, want %v", got, all)
			}
			back := slices.Clone(all[:max(len(all)-1, 0)])
			slices.Reverse(back)
			if got := along(t, p.Prev, n); !slices.EqualFunc(got, back, same) {
				t.Fatalf("P1806: Prev gives %v, want %v", got, back)
			}
		}
	}
}

// between: is there a stamp above the one and below the other? nil: of all that are below, or above.
func between(stamps []api.Stamp, above, below *api.Stamp) bool {
	return slices.ContainsFunc(stamps, func(s api.Stamp) bool {
		return (above == nil || above.Less(s)) && (below == nil || s.Less(*below))
	})
}

// passes: a step of a cursor that stands at that place: its frame is on the right side of it, and none lies between; the place from then on.
func passes(t *testing.T, db *streamdb.DB, p *playback.Player, place *api.Stamp, up bool) *api.Stamp {
	t.Helper()
	stamps := stampsOf(db, 0)
	if up {
		f, e := p.Next(1)
		if e == api.ErrNone {
			if between(stamps, place, nil) {
				t.Fatalf("P1807: Next from %v: none, of %v", place, stamps)
			}
			return place
		}
		if e != api.OK || place != nil && !place.Less(f.Stamp) || between(stamps, place, &f.Stamp) || !slices.Contains(stamps, f.Stamp) {
			t.Fatalf("P1807: Next from %v: %v, %d, of %v", place, f, e, stamps)
		}
		return &f.Stamp
	}
	f, e := p.Prev(1)
	if e == api.ErrNone {
		if place != nil && between(stamps, nil, place) {
			t.Fatalf("P1807: Prev from %v: none, of %v", place, stamps)
		}
		return place
	}
	if e != api.OK || place == nil || !f.Stamp.Less(*place) || between(stamps, &f.Stamp, place) || !slices.Contains(stamps, f.Stamp) {
		t.Fatalf("P1807: Prev from %v: %v, %d, of %v", place, f, e, stamps)
	}
	return &f.Stamp
}

// TestPassedBy: whatever comes and goes between the steps.
func TestPassedBy(t *testing.T) {
	for seed := range int64(100) {
		r := rand.New(rand.NewSource(seed))
		db, p := filled(t, r, r.Intn(20))
		c := &chance{r, 1, 40, 40, seed%4 == 0}
		opens(t, p, 0, 1)
		var place *api.Stamp
		for range 200 {
			place = passes(t, db, p, place, r.Intn(5) > 1)
			switch r.Intn(12) {
			case 0, 1, 2, 3:
				db.Insert(framed(0, at(c.number(40), c.number(40))), 0, false)
			case 4:
				db.Sweep(uint64(r.Intn(20000)))
			case 5:
				if place != nil { // a neighbour of the place, or the place itself
					db.Insert(framed(0, at(place.Time, place.Seq+uint64(r.Intn(3))-1)), 0, false)
				}
			case 6:
				if r.Intn(5) == 0 {
					db.Unlisten(0)
					listens(t, db, 0)
				}
			case 7:
				if r.Intn(4) == 0 {
					is(t, "P1804: Rewind", p.Rewind(1), api.OK)
					place = nil
				}
			}
		}
	}
}

// TestGapsAreWhatIsMissing: each number from the least to the greatest one of the frames within lies in a gap just if no frame has it, and in one alone; gaps rise, and between two of them there is a number.
func TestGapsAreWhatIsMissing(t *testing.T) {
	for seed := range int64(300) {
		r := rand.New(rand.NewSource(seed))
		db, p := with(t)
		times, seqs := 1+r.Intn(30), 1+r.Intn(80)
		for range r.Intn(64) {
			db.Insert(framed(0, at(uint64(r.Intn(times)), uint64(r.Intn(seqs)))), 0, false)
		}
		for range 20 {
			a, b := uint64(r.Intn(times+2)), uint64(r.Intn(times+2))
			l, e := p.Gaps(0, a, b)
			is(t, "P1805: Gaps", e, api.OK)
			wanted(t, db, a, b, l)
		}
	}
}

func wanted(t *testing.T, db *streamdb.DB, a, b uint64, l []api.Gap) {
	t.Helper()
	there, within := map[uint64]bool{}, map[uint64]bool{}
	for _, s := range stampsOf(db, 0) {
		there[s.Seq] = true
		if a <= s.Time && s.Time <= b {
			within[s.Seq] = true
		}
	}
	in := map[uint64]int{}
	for i, g := range l {
		if g.From > g.To || i > 0 && g.From < l[i-1].To+2 {
			t.Fatalf("P1808: a gap that is none, or touches: %v", l)
		}
		for n := g.From; n <= g.To; n++ {
			in[n]++
		}
	}
	for n := range uint64(100) {
		inside := false // does one of the frames within have a number at most n, and one a number at least n?
		for low := range within {
			for high := range within {
				inside = inside || low <= n && n <= high
			}
		}
		want := 0
		if inside && !there[n] {
			want = 1
		}
		if in[n] != want {
			t.Fatalf("P1808: %d lies in %d gaps of %v, want %d; numbers within %v, all %v", n, in[n], l, want, within, there)
		}
	}
}
