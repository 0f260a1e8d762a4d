package dual_test

import (
	"bytes"
	"math/rand"
	"slices"
	"testing"

	"halyard/api"
	"halyard/cutter"
	"halyard/dual"
)

// life: what is known of a frame from outside.
type life struct {
	block    []byte
	newest   bool
	sessions []uint64
}

// witness: it calls an engine, and keeps what must come of each frame from what it sees alone.
type witness struct {
	t      *testing.T
	e      *dual.Engine
	window int
	given  uint64 // the greatest number of a session that was seen
	held   map[api.Key]*life
}

func watch(t *testing.T, c api.Config, now uint64) *witness {
	return &witness{t, fresh(t, c, 3, now), c.Window, 0, map[api.Key]*life{}}
}

// owner: the frame with that session.
func (w *witness) owner(number uint64) (api.Key, *life) {
	for k, l := range w.held {
		if slices.Contains(l.sessions, number) {
			return k, l
		}
	}
	return api.Key{}, nil
}

// starts: the sessions that are first seen in these units, in their order: to whom they belong the State tells. by: the frame that a Send sends by express.
func (w *witness) starts(units []api.Unit, by *api.Key) {
	_, freight, _, _ := w.e.State()
	first := w.given + 1
	for _, u := range units {
		if u.Kind != api.Data || u.Session <= w.given {
			continue
		}
		if u.Session != w.given+1 {
			w.t.Fatalf("P1610: behind session %d comes %d", w.given, u.Session)
		}
		if express := u.Path == api.Express; express != (by != nil) {
			w.t.Fatalf("P1611: session %d goes by %d", u.Session, u.Path)
		}
		w.given++
	}
	count := int(w.given - first + 1)
	if by != nil {
		if count != 1 {
			w.t.Fatalf("P1603: %d sessions begin", count)
		}
		w.held[*by].sessions = append(w.held[*by].sessions, first)
		return
	}
	if count > len(freight) {
		w.t.Fatalf("P1608: %d sessions begin, %v are under way", count, freight)
	}
	for i, k := range freight[len(freight)-count:] {
		if w.held[k] == nil {
			w.t.Fatalf("P1609: %v is under way, and is over", k)
		}
		w.held[k].sessions = append(w.held[k].sessions, first+uint64(i))
	}
}

// carries: each unit of data is a piece of the block of the frame whose session it names.
func (w *witness) carries(units []api.Unit) {
	for _, u := range units {
		if u.Kind != api.Data {
			continue
		}
		_, l := w.owner(u.Session)
		if l == nil {
			w.t.Fatalf("P1610: a unit of session %d, which no frame has", u.Session)
		}
		if want, _ := cutter.Cut(l.block, 16); u.Count != len(want) || !bytes.Equal(u.Data, want[u.Index]) {
			w.t.Fatalf("P1610: the unit %d of %d of session %d has %d bytes that are not its frame's", u.Index, u.Count, u.Session, len(u.Data))
		}
		if u.Path == api.Express && (!l.newest || l.sessions[0] != u.Session) {
			w.t.Fatalf("P1611: session %d goes by express", u.Session)
		}
	}
}

// bounds: each frame that is held is in just one place, no other one is in any; no window is left with room.
func (w *witness) bounds() {
	express, freight, waiting, resting := w.e.State()
	if len(freight) > w.window || len(freight) < w.window && len(waiting) > 0 {
		w.t.Fatalf("P1612: %d are under way, %d wait, of a window of %d", len(freight), len(waiting), w.window)
	}
	all := slices.Concat(express, freight, waiting, resting)
	if len(all) != len(w.held) || len(all) > api.MaxPending {
		w.t.Fatalf("P1609: %d are in places, %d are held", len(all), len(w.held))
	}
	for i, k := range all {
		if w.held[k] == nil || slices.Contains(all[:i], k) {
			w.t.Fatalf("P1609: %v is in a place, and is over or in two", k)
		}
	}
	for _, k := range express {
		if l := w.held[k]; !l.newest || len(l.sessions) != 1 {
			w.t.Fatalf("P1611: %v is by express with %v", k, l.sessions)
		}
	}
}

// sees: what any call but Send with newest answered.
func (w *witness) sees(out dual.Out) {
	w.starts(out.Units, nil)
	w.carries(out.Units)
	w.bounds()
	_, _, _, resting := w.e.State()
	for _, k := range out.Rest {
		if !slices.Contains(resting, k) {
			w.t.Fatalf("P1609: %v is told to rest, and does not", k)
		}
	}
}

func (w *witness) send(k api.Key, block []byte, newest bool, now uint64) {
	_, known := w.held[k]
	out, x := w.e.Send(k, block, newest, now)
	if known != (x == api.ErrTwice) || !known && (x == api.OK) != (len(w.held) < api.MaxPending) {
		w.t.Fatalf("P1609: Send(%v) = %v; is it held? %v", k, x, known)
	}
	if x != api.OK {
		return
	}
	w.held[k] = &life{block: block, newest: newest}
	if !newest {
		w.sees(out)
		return
	}
	w.starts(out.Units, &k)
	w.carries(out.Units)
	w.bounds()
}

func (w *witness) hear(number uint64, code int, now uint64) {
	k, l := w.owner(number)
	out := w.e.Hear(report(number, code), now)
	if l != nil {
		delete(w.held, k)
	}
	if told := len(out.Done) > 0; told != (l != nil) || told && !slices.Equal(out.Done, []api.Done{{Key: k, Code: code}}) {
		w.t.Fatalf("P1613: Hear of session %d = %v; whose is it? %v", number, out.Done, k)
	}
	w.sees(out)
}

func (w *witness) cancel(k api.Key, now uint64) {
	l := w.held[k]
	out, was := w.e.Cancel(k, now)
	if was != (l != nil) {
		w.t.Fatalf("P1609: Cancel(%v) = %v", k, was)
	}
	if !was {
		return
	}
	delete(w.held, k)
	told := len(out.Units) > 0 && out.Units[0].Kind == api.Cancel
	if had := len(l.sessions) > 0; told != had || had && out.Units[0].Session != l.sessions[len(l.sessions)-1] {
		w.t.Fatalf("P1606: Cancel of one with the sessions %v sends %+v", l.sessions, out.Units)
	}
	w.sees(out)
}

// TestHolds: whatever is called, the promises over all calls hold.
func TestHolds(t *testing.T) {
	for seed := range int64(300) {
		r := rand.New(rand.NewSource(seed))
		c := with(r.Intn(4), 1+r.Intn(8))
		c.AckTime, c.RetryTime = 1+uint64(r.Intn(20)), 1+uint64(r.Intn(20))
		clock := uint64(r.Intn(1000))
		if seed%3 == 0 {
			clock = api.MaxNumber - uint64(r.Intn(500))
		}
		w := watch(t, c, clock)
		many := 1 + r.Intn(100)
		for range 400 {
			n := r.Intn(many)
			k := key(n%8, uint64(n))
			at := clock + uint64(r.Intn(5)) - min(clock, uint64(r.Intn(4)))
			clock = max(clock, min(at, api.MaxNumber))
			switch r.Intn(12) {
			case 0, 1:
				w.hear(w.given+2-min(w.given+1, uint64(r.Intn(20))), 1+r.Intn(7), at)
			case 2:
				w.cancel(k, at)
			case 3:
				w.sees(w.e.Kick(at))
			case 4, 5, 6:
				w.sees(w.e.Tick(at))
			default:
				w.send(k, text(1+r.Intn(80)), r.Intn(2) == 0, at)
			}
		}
	}
}

// TestItComesThrough: once each session is answered, ahead of the Tick that would lose it, all that is held is done, with the code of the first report of any of its sessions.
func TestItComesThrough(t *testing.T) {
	for seed := range int64(200) {
		r := rand.New(rand.NewSource(seed))
		c := with(r.Intn(4), 1+r.Intn(8))
		w := watch(t, c, 0)
		now := uint64(0)
		for n := range uint64(api.MaxPending) { // a while in which little comes through
			w.send(key(int(n%8), n), text(1+r.Intn(60)), r.Intn(2) == 0, now)
			now += uint64(r.Intn(8))
			w.sees(w.e.Tick(now))
			if r.Intn(10) == 0 {
				w.sees(w.e.Kick(now))
			}
		}
		rounds := 0
		for ; len(w.held) > 0 && rounds < 2*api.MaxPending; rounds++ {
			express, freight, _, _ := w.e.State()
			for _, k := range slices.Concat(express, freight) { // each that is under way is heard of, by its last session or by one of before
				if l := w.held[k]; l != nil {
					w.hear(l.sessions[r.Intn(len(l.sessions))], 1+r.Intn(7), now)
				}
			}
			now++
			w.sees(w.e.Tick(now))
			w.sees(w.e.Kick(now))
		}
		if len(w.held) > 0 {
			t.Fatalf("P1613: behind %d rounds %d are held", rounds, len(w.held))
		}
		stands(t, w.e, nil, nil, nil, nil)
	}
}

// TestNothingHeard: without any report each frame goes by express once, if it was the newest, by freight so often as it is kicked, and none is over.
func TestNothingHeard(t *testing.T) {
	w := watch(t, with(0, 2), 0)
	for n := range uint64(6) {
		w.send(key(0, n), one(), n%2 == 0, 0)
	}
	now := uint64(0)
	for round := 1; round <= 20; round++ {
		for range 5 {
			now += 20
			w.sees(w.e.Tick(now))
		}
		if _, _, _, resting := w.e.State(); len(resting) != 6 {
			t.Fatalf("P1605: in round %d %v rest", round, resting)
		}
		for k, l := range w.held {
			want := round
			if l.newest {
				want++
			}
			if len(l.sessions) != want {
				t.Fatalf("P1611: in round %d %v had the sessions %v", round, k, l.sessions)
			}
		}
		w.sees(w.e.Kick(now))
	}
	for n := uint64(1); n <= w.given; n++ { // each number it ever had is known, and once one was heard, none of that frame
		w.hear(n, api.Stored, now)
	}
	stands(t, w.e, nil, nil, nil, nil)
}

// TestAnew: a key that is over, however it came over, is sent anew, and has nothing of before.
func TestAnew(t *testing.T) {
	for i, end := range []func(e *dual.Engine){
		func(e *dual.Engine) { hears(t, e, report(1, api.Stored), 101, done(a, api.Stored)) },
		func(e *dual.Engine) { cancels(t, e, a, 101, cancel(1)) },
		func(e *dual.Engine) {
			ticks(t, e, 110, sent(slow(2)))
			hears(t, e, report(1, api.Stored), 110, done(a, api.Stored))
		},
		func(e *dual.Engine) {
			ticks(t, e, 110, sent(slow(2)))
			ticks(t, e, 130, rests(a))
			cancels(t, e, a, 130, cancel(2))
		},
	} {
		e := fresh(t, with(0, 1), 3, 100)
		sends(t, e, a, true, 100, fast(1))
		end(e)
		stands(t, e, nil, nil, nil, nil)
		next := uint64(2 + i/2)
		sends(t, e, b, false, 130, slow(next))
		sends(t, e, a, false, 130)
		for n := uint64(1); n < next; n++ {
			hears(t, e, report(n, api.Stored), 130, dual.Out{})
		}
		stands(t, e, nil, keys(b), keys(a), nil)
		cancels(t, e, a, 130) // it had no session since
		ticks(t, e, 150, rests(b))
		kicks(t, e, 150, slow(next+1))
	}
}
