package freight_test

import (
	"bytes"
	"math/rand"
	"slices"
	"testing"

	"halyard/api"
	"halyard/cutter"
	"halyard/freight"
	"halyard/pdu"
)

// together: the block that the units of a session bring, in that order.
func together(t *testing.T, l []api.Unit, order []int) []byte {
	t.Helper()
	box, e := cutter.New(len(l))
	if e != api.OK {
		t.Fatalf("P1504: %d units", len(l))
	}
	for _, i := range order {
		if e := box.Put(l[i].Index, l[i].Data); e != api.OK {
			t.Fatalf("P1504: Put(%d, %d bytes) = %v", l[i].Index, len(l[i].Data), e)
		}
	}
	block, ok := box.Whole()
	if !ok {
		t.Fatalf("P1504: of %d units the box is not whole", len(l))
	}
	return block
}

// TestBlocks: of blocks of each length, under mtus about the edges, each unit is one that can be sent, and all together are the block, the first time and again.
func TestBlocks(t *testing.T) {
	r := rand.New(rand.NewSource(1))
	for _, mtu := range []int{16, 17, 31, 32, 100, 511, 512, 513, 1023, 1024} {
		c := config()
		c.Mtu = mtu
		s := fresh(t, c, 9, 0)
		for n := uint64(1); n <= api.MaxBlock; n++ {
			block, k := text(int(n)), key(int(n%8), n)
			queues(t, s, k, block)
			want := unitsOf(9, n, block, mtu)
			runs(t, s, n, 0, 1, want...)
			l, _ := s.Tick(n * 10)
			if !slices.EqualFunc(l, want, sameUnit) {
				t.Fatalf("P1506: %d bytes by %d, again: %+v", n, mtu, l)
			}
			for _, u := range l {
				if pdu.Valid(u) != api.OK {
					t.Fatalf("P1506: %+v is no unit", u)
				}
			}
			if !bytes.Equal(together(t, l, r.Perm(len(l))), block) {
				t.Fatalf("P1504: %d bytes by %d: another block", n, mtu)
			}
			stops(t, s, k, n, true)
		}
	}
}

// life: what is known of a session from outside.
type life struct {
	key    api.Key
	count  int // of its segments
	told   []api.Range
	handed int // how many units of it were handed out
	times  int // in how many calls
	tick   uint64
}

// witness: it calls a sender, and keeps what must come of each key from what it sees alone.
type witness struct {
	t     *testing.T
	s     *freight.Sender
	c     api.Config
	clock uint64
	next  uint64
	row   []api.Key
	alive map[uint64]*life
}

func (w *witness) goOn(now uint64) { w.clock = max(w.clock, min(now, api.MaxNumber)) }

// bounds: P1508, and that each key is where it must be.
func (w *witness) bounds() {
	waiting, busy := w.s.Waiting(), w.s.Busy()
	if len(busy) > w.c.Window || len(waiting)+len(busy) > api.MaxPending {
		w.t.Fatalf("P1508: %d wait, %d are under way, of a window of %d", len(waiting), len(busy), w.c.Window)
	}
	if !slices.Equal(waiting, w.row) || len(busy) != len(w.alive) {
		w.t.Fatalf("P1510: %v wait, want %v; %v are under way, want %d", waiting, w.row, busy, len(w.alive))
	}
}

func (w *witness) queue(k api.Key, block []byte) {
	known := slices.Contains(w.row, k) || w.numberOf(k) > 0
	switch e := w.s.Queue(k, block); {
	case known != (e == api.ErrTwice):
		w.t.Fatalf("P1510: Queue(%v) = %v; is it there? %v", k, e, known)
	case e == api.OK:
		w.row = append(w.row, k)
	}
}

func (w *witness) numberOf(k api.Key) uint64 {
	for n, l := range w.alive {
		if l.key == k {
			return n
		}
	}
	return 0
}

// handed: a unit of a session that is under way was handed out.
func (w *witness) handed(u api.Unit) *life {
	l := w.alive[u.Session]
	if l == nil || u.Count != l.count {
		w.t.Fatalf("P1509: %+v is of no session", u)
	}
	l.handed++
	if l.handed > (w.c.Retries+1)*l.count {
		w.t.Fatalf("P1509: of session %d, %d segments, %d units were handed out", u.Session, l.count, l.handed)
	}
	return l
}

func (w *witness) run(now uint64) {
	w.goOn(now)
	n, units := w.s.Run(w.next, now)
	if n > len(w.row) || n < min(len(w.row), w.c.Window-len(w.alive)) {
		w.t.Fatalf("P1511: Run = %d, where %d wait and %d are under way", n, len(w.row), len(w.alive))
	}
	for i := range n {
		w.alive[w.next+uint64(i)] = &life{key: w.row[i], times: 1, tick: min(w.clock+w.c.RetryTime, api.MaxNumber)}
	}
	for _, u := range units {
		w.alive[u.Session].count = u.Count
		if l := w.handed(u); u.Index != l.handed-1 {
			w.t.Fatalf("P1504: the unit %d of session %d has the index %d", l.handed-1, u.Session, u.Index)
		}
	}
	for i := range n {
		if l := w.alive[w.next+uint64(i)]; l.handed != l.count || l.count == 0 {
			w.t.Fatalf("P1509: %d of %d segments went at first", l.handed, l.count)
		}
	}
	w.row = w.row[n:]
	w.next += uint64(n)
}

func (w *witness) hear(u api.Unit) {
	d, ok := w.s.Hear(u)
	l := w.alive[u.Session]
	switch {
	case ok != (l != nil && u.Code != 0):
		w.t.Fatalf("P1510: Hear(%+v) = %v, %v", u, d, ok)
	case ok:
		if d.Key != l.key || d.Code != u.Code {
			w.t.Fatalf("P1510: Hear(%+v) = %v, want %v", u, d, l.key)
		}
		delete(w.alive, u.Session)
	case l != nil:
		l.told = append(l.told, u.Got...)
	}
}

func (w *witness) stop(k api.Key) {
	n, ok := w.s.Stop(k)
	place := slices.Index(w.row, k)
	if n != w.numberOf(k) || ok != (n > 0 || place >= 0) {
		w.t.Fatalf("P1510: Stop(%v) = %d, %v", k, n, ok)
	}
	delete(w.alive, n)
	if place >= 0 {
		w.row = slices.Delete(slices.Clone(w.row), place, place+1)
	}
}

// again: a unit that was sent again: its session's tick had come, and the segment is not told.
func (w *witness) again(u api.Unit) {
	l := w.handed(u)
	if l.tick > w.clock {
		w.t.Fatalf("P1506: at %d session %d is sent again, ahead of %d", w.clock, u.Session, l.tick)
	}
	all := len(pdu.Missing(l.told, l.count)) == 0
	if all != pdu.Has(l.told, u.Index) || all && u.Index != l.count-1 {
		w.t.Fatalf("P1509: the segment %d of %d is sent again, told are %v", u.Index, l.count, l.told)
	}
}

func (w *witness) tick(now uint64) {
	w.goOn(now)
	units, lost := w.s.Tick(now)
	for _, u := range units {
		w.again(u)
	}
	for _, k := range lost {
		n := w.numberOf(k)
		if n == 0 || w.alive[n].times <= w.c.Retries || w.alive[n].tick > w.clock {
			w.t.Fatalf("P1510: %v is lost at %d", k, w.clock)
		}
		delete(w.alive, n)
	}
	for n, l := range w.alive {
		sent := slices.ContainsFunc(units, func(u api.Unit) bool { return u.Session == n })
		if sent != (l.tick <= w.clock) {
			w.t.Fatalf("P1506: at %d session %d, whose tick is %d: is it sent again? %v", w.clock, n, l.tick, sent)
		}
		if sent {
			l.times++
			l.tick = min(w.clock+w.c.RetryTime, api.MaxNumber)
		}
	}
}

// TestHolds: whatever is called, the promises over all calls hold.
func TestHolds(t *testing.T) {
	for seed := range int64(300) {
		r := rand.New(rand.NewSource(seed))
		c := with(r.Intn(5), 1+r.Intn(8))
		c.RetryTime = 1 + uint64(r.Intn(20))
		now := uint64(r.Intn(1000))
		if seed%3 == 0 {
			now = api.MaxNumber - uint64(r.Intn(200))
		}
		w := &witness{t, fresh(t, c, 3, now), c, now, 1, nil, map[uint64]*life{}}
		for range 400 {
			k := key(r.Intn(8), uint64(r.Intn(12)))
			at := w.clock + uint64(r.Intn(5)) - min(w.clock, uint64(r.Intn(4)))
			number := w.next - min(w.next-1, uint64(r.Intn(9)))
			switch r.Intn(12) {
			case 0:
				w.hear(report(3, number, 1+r.Intn(7)))
			case 1, 2, 3:
				from := r.Intn(5)
				w.hear(report(3, number, 0, span(from, from+1+r.Intn(3))))
			case 4:
				w.stop(k)
			case 5, 6:
				w.tick(at)
			case 7, 8:
				w.run(at)
			default:
				w.queue(k, text(1+r.Intn(80)))
			}
			w.bounds()
		}
	}
}

// TestMostUnits: a session of which nothing is told hands out (Retries + 1) times its segments, and no more.
func TestMostUnits(t *testing.T) {
	for retries := range 17 {
		for _, n := range []int{1, 16, 17, 1024} {
			s := fresh(t, with(retries, 1), 3, 0)
			queues(t, s, key(0, 1), text(n))
			_, l := s.Run(1, 0)
			count, all := len(l), len(l)
			for now := range uint64(400) {
				l, _ := s.Tick(now)
				all += len(l)
			}
			if all != (retries+1)*count || len(s.Busy()) != 0 {
				t.Errorf("P1509: %d segments, %d retries: %d units", count, retries, all)
			}
		}
	}
}

// TestItComesThrough: where each session is heard of with a code at the latest behind its last sending, all are done, in the order of the row, Window of them at a time.
func TestItComesThrough(t *testing.T) {
	for seed := range int64(100) {
		r := rand.New(rand.NewSource(seed))
		c := with(r.Intn(17), 1+r.Intn(8))
		s := fresh(t, c, 3, 0)
		var row, begun, done []api.Key
		for n := range uint64(api.MaxPending) {
			queues(t, s, key(int(n%8), n), text(1+r.Intn(100)))
			row = append(row, key(int(n%8), n))
		}
		next := uint64(1)
		sent := map[uint64]int{} // by numbers: how often it was sent again
		run := func(now uint64) {
			n, _ := s.Run(next, now)
			for i := range n {
				sent[next+uint64(i)] = 0
			}
			next += uint64(n)
			begun = append(begun, s.Busy()[len(s.Busy())-n:]...)
			if want := min(c.Window, len(s.Waiting())+len(s.Busy())); len(s.Busy()) != want {
				t.Fatalf("P1511: %d are under way, want %d", len(s.Busy()), want)
			}
		}
		run(0)
		for now := uint64(0); len(s.Busy()) > 0; now++ {
			units, lost := s.Tick(now)
			if len(lost) > 0 {
				t.Fatalf("P1511: lost are %v", lost)
			}
			seen := uint64(0)
			for _, u := range units {
				if u.Session != seen {
					seen = u.Session
					sent[seen]++
				}
			}
			for n := uint64(1); n < next; n++ {
				times, under := sent[n]
				if under && (times == c.Retries || r.Intn(20) == 0) {
					d, ok := s.Hear(report(3, n, api.Stored))
					if !ok {
						t.Fatalf("P1511: session %d is not under way", n)
					}
					done = append(done, d.Key)
					delete(sent, n)
					run(now)
				}
			}
		}
		slices.SortFunc(done, func(a, b api.Key) int { return int(a.Seq) - int(b.Seq) })
		if !slices.Equal(begun, row) || !slices.Equal(done, row) || len(s.Waiting()) > 0 {
			t.Fatalf("P1511: begun are %v, done %v", begun, done)
		}
	}
}

// TestAnew: a key that ended, however it did, is queued anew, behind all others and with all its times.
func TestAnew(t *testing.T) {
	one := []byte{1}
	a, b := key(0, 1), key(0, 2)
	ends := []func(s *freight.Sender){
		func(s *freight.Sender) { hears(t, s, report(3, 1, api.Stored), a) },
		func(s *freight.Sender) { stops(t, s, a, 1, true) },
		func(s *freight.Sender) { loses(t, s, 120, a) },
	}
	for _, end := range ends {
		s := fresh(t, config(), 3, 100)
		queues(t, s, a, text(40))
		queues(t, s, b, one)
		runs(t, s, 1, 100, 1, unitsOf(3, 1, text(40), 16)...)
		sends(t, s, 110, unitsOf(3, 1, text(40), 16)...)
		end(s)
		busy(t, s)
		stops(t, s, a, 0, false)
		ignores(t, s, report(3, 1, api.Stored))
		loses(t, s, 130)
		queues(t, s, a, one)
		waiting(t, s, b, a)
		runs(t, s, 1, 130, 1, unitsOf(3, 1, one, 16)...) // its number, for another key
		hears(t, s, report(3, 1, api.TooLate), b)
		runs(t, s, 2, 130, 1, unitsOf(3, 2, one, 16)...)
		sends(t, s, 140, unitsOf(3, 2, one, 16)...)
		loses(t, s, 150, a)
		loses(t, s, 1000)
	}
}

// TestManySessions: far more of them than may be under way at a time, one behind the other.
func TestManySessions(t *testing.T) {
	s := fresh(t, with(0, 8), 3, 0)
	one := []byte{1}
	for n := uint64(1); n <= 50000; n++ {
		queues(t, s, key(int(n%8), n), one)
		runs(t, s, n, 2*n, 1, unitsOf(3, n, one, 16)...)
		if n > 5 {
			loses(t, s, 2*n, key(int((n-5)%8), n-5))
		}
	}
	if l := s.Busy(); len(l) != 5 {
		t.Errorf("P1506: Busy = %v", l)
	}
}
