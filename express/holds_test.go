package express_test

import (
	"bytes"
	"math/rand"
	"slices"
	"testing"

	"halyard/api"
	"halyard/cutter"
	"halyard/express"
	"halyard/pdu"
)

// together: the block that the units of a session bring, in that order.
func together(t *testing.T, l []api.Unit, order []int) []byte {
	t.Helper()
	box, e := cutter.New(len(l))
	if e != api.OK {
		t.Fatalf("P1407: %d units", len(l))
	}
	for _, i := range order {
		if e := box.Put(l[i].Index, l[i].Data); e != api.OK { // ErrTwice: it was handed out twice
			t.Fatalf("P1407: Put(%d, %d bytes) = %v", l[i].Index, len(l[i].Data), e)
		}
	}
	block, ok := box.Whole()
	if !ok {
		t.Fatalf("P1407: of %d units the box is not whole", len(l))
	}
	return block
}

// TestOnce: of blocks of each length, under mtus about the edges, each unit is one that can be sent, and all together are the block.
func TestOnce(t *testing.T) {
	r := rand.New(rand.NewSource(1))
	for _, mtu := range []int{16, 17, 31, 32, 100, 511, 512, 513, 1023, 1024} {
		c := config()
		c.Mtu = mtu
		s := fresh(t, c, 9, 0)
		for n := 1; n <= api.MaxBlock; n++ {
			block, k := text(n), key(n%8, uint64(n))
			l, e := s.Begin(uint64(n), k, block, 0)
			if e != api.OK || !slices.EqualFunc(l, unitsOf(9, uint64(n), block, mtu), sameUnit) {
				t.Fatalf("P1403: Begin of %d bytes by %d = %v", n, mtu, e)
			}
			for _, u := range l {
				if pdu.Valid(u) != api.OK {
					t.Fatalf("P1403: %+v is no unit", u)
				}
			}
			if !bytes.Equal(together(t, l, r.Perm(len(l))), block) {
				t.Fatalf("P1407: %d bytes by %d: another block", n, mtu)
			}
			stops(t, s, k, uint64(n))
		}
	}
}

// life: what is known of a session from outside.
type life struct {
	key   api.Key
	begun uint64 // the clock of its Begin
}

// witness: it calls a sender, and keeps of each session that began when it did.
type witness struct {
	t     *testing.T
	s     *express.Sender
	ack   uint64
	clock uint64
	alive map[uint64]life
}

func (w *witness) begin(number uint64, k api.Key, now uint64) {
	if _, e := w.s.Begin(number, k, []byte{1}, now); e != api.OK {
		return
	}
	w.clock = max(w.clock, min(now, api.MaxNumber))
	if _, was := w.alive[number]; was {
		w.t.Fatalf("P1403: %d began twice", number)
	}
	w.alive[number] = life{k, w.clock}
}

// numberOf: the session that is under way for that key; 0, if none is.
func (w *witness) numberOf(k api.Key) uint64 {
	for n, l := range w.alive {
		if l.key == k {
			return n
		}
	}
	return 0
}

func (w *witness) hear(number uint64) {
	d, ok := w.s.Hear(report(3, number, api.Stored))
	l, was := w.alive[number]
	if ok != was || d.Key != l.key {
		w.t.Fatalf("P1408: Hear of %d = %v, %v; is it under way? %v", number, d, ok, was)
	}
	delete(w.alive, number)
}

func (w *witness) stop(k api.Key) {
	n, ok := w.s.Stop(k)
	if n != w.numberOf(k) || ok != (n > 0) {
		w.t.Fatalf("P1408: Stop(%v) = %d, %v, want %d", k, n, ok, w.numberOf(k))
	}
	delete(w.alive, n)
}

func (w *witness) tick(now uint64) {
	w.clock = max(w.clock, min(now, api.MaxNumber))
	for _, k := range w.s.Tick(now) {
		n := w.numberOf(k)
		if n == 0 {
			w.t.Fatalf("P1408: Tick(%d) tells %v, which is not under way", now, k)
		}
		if w.clock < min(w.alive[n].begun+w.ack, api.MaxNumber) {
			w.t.Fatalf("P1409: Tick(%d) tells %v, which began at %d", now, k, w.alive[n].begun)
		}
		delete(w.alive, n)
	}
	for _, l := range w.alive {
		if w.clock >= min(l.begun+w.ack, api.MaxNumber) {
			w.t.Fatalf("P1409: Tick(%d) does not tell %v, which began at %d", now, l.key, l.begun)
		}
	}
}

// TestOneEndInTime: whatever is called, each session ends by one of Hear, Tick and Stop, once, and by Tick neither too early nor too late.
func TestOneEndInTime(t *testing.T) {
	for seed := range int64(300) {
		r := rand.New(rand.NewSource(seed))
		c := config()
		c.AckTime = 1 + uint64(r.Intn(40))
		now := uint64(r.Intn(1000))
		if seed%3 == 0 {
			now = api.MaxNumber - uint64(r.Intn(60))
		}
		w := &witness{t, fresh(t, c, 3, now), c.AckTime, now, map[uint64]life{}}
		for range 400 {
			n, k := 1+uint64(r.Intn(20)), key(r.Intn(4), uint64(r.Intn(5)))
			at := w.clock + uint64(r.Intn(5)) - min(w.clock, uint64(r.Intn(4)))
			switch r.Intn(8) {
			case 0:
				w.hear(n)
			case 1:
				w.stop(k)
			case 2:
				w.tick(at)
			default:
				w.begin(n, k, at)
			}
			if l := w.s.Busy(); len(l) != len(w.alive) {
				t.Fatalf("P1408: Busy = %v, want %d", l, len(w.alive))
			}
		}
		w.tick(api.MaxNumber)
		if len(w.alive) != 0 || len(w.s.Busy()) != 0 {
			t.Fatalf("P1409: at the end of time %v are under way", w.s.Busy())
		}
	}
}

// TestInTime: each AckTime about its ends, and each time of a Tick about the session's.
func TestInTime(t *testing.T) {
	for _, ack := range []uint64{1, 2, 63, 64, 65, 4095, 4096} {
		for _, from := range []uint64{0, 1, 63, 4095, 1 << 24, 1<<36 - 1, api.MaxNumber - 5000, api.MaxNumber - 64, api.MaxNumber - 1} {
			c := config()
			c.AckTime = ack
			over := min(from+ack, api.MaxNumber)
			s := fresh(t, c, 3, 0)
			begins(t, s, 1, key(1, 1), from)
			ticks(t, s, over-1)
			ticks(t, s, over, key(1, 1))
			s = fresh(t, c, 3, from)
			begins(t, s, 1, key(1, 1), from)
			ticks(t, s, api.MaxNumber, key(1, 1)) // a long way on
			s = fresh(t, c, 3, from)
			begins(t, s, 1, key(1, 1), 0)
			begins(t, s, 2, key(1, 2), over)
			ticks(t, s, 0, []api.Key{key(1, 1), key(1, 2)}[:1+over/api.MaxNumber]...)
		}
	}
}

// TestAgain: a key and a number that ended, however they did, begin anew, with a time and a place of their own.
func TestAgain(t *testing.T) {
	ends := []func(s *express.Sender){
		func(s *express.Sender) { hears(t, s, report(3, 1, api.Stored), key(0, 1)) },
		func(s *express.Sender) { stops(t, s, key(0, 1), 1) },
		func(s *express.Sender) { ticks(t, s, 110, key(0, 1)) },
	}
	for _, end := range ends {
		s := fresh(t, config(), 3, 100)
		begins(t, s, 1, key(0, 1), 100)
		begins(t, s, 2, key(0, 2), 105)
		end(s)
		busy(t, s, key(0, 2))
		stops(t, s, key(0, 1), 0)
		ignores(t, s, report(3, 1, api.Stored))
		begins(t, s, 1, key(0, 3), 112) // its number, for another key
		begins(t, s, 3, key(0, 1), 112) // its key, with another number
		busy(t, s, key(0, 2), key(0, 3), key(0, 1))
		ticks(t, s, 115, key(0, 2))
		hears(t, s, report(3, 1, api.TooLate), key(0, 3))
		ticks(t, s, 121)
		ticks(t, s, 122, key(0, 1))
		ticks(t, s, 1000)
	}
}

// TestManySessions: far more of them than may be under way at a time, one behind the other.
func TestManySessions(t *testing.T) {
	s := fresh(t, config(), 3, 0)
	for n := uint64(1); n <= 100000; n++ {
		begins(t, s, n, key(int(n%8), n), n)
		if n > 10 {
			ticks(t, s, n, key(int((n-10)%8), n-10))
		}
	}
	if l := s.Busy(); len(l) != 10 {
		t.Errorf("P1405: Busy = %v", l)
	}
}
