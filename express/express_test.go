package express_test

import (
	"bytes"
	"math"
	"slices"
	"testing"

	"halyard/api"
	"halyard/express"
)

func config() api.Config {
	return api.Config{Mtu: 16, AckTime: 10, RetryTime: 5, Retries: 1, Window: 1, Inbox: 1}
}

func fresh(t *testing.T, c api.Config, epoch, now uint64) *express.Sender {
	t.Helper()
	s, e := express.New(c, epoch, now)
	if s == nil || e != api.OK {
		t.Fatalf("P1402: New(%+v, %d, %d) = %v, %v", c, epoch, now, s, e)
	}
	return s
}

func key(stream int, seq uint64) api.Key { return api.Key{Stream: stream, Seq: seq} }

func report(epoch, session uint64, code int) api.Unit {
	return api.Unit{Kind: api.Report, Epoch: epoch, Session: session, Code: code}
}

// text: so many bytes, of which no two neighbouring segments are the same.
func text(n int) []byte {
	b := make([]byte, n)
	for i := range b {
		b[i] = byte(i ^ i>>3 + n)
	}
	return b
}

func begins(t *testing.T, s *express.Sender, number uint64, k api.Key, now uint64) {
	t.Helper()
	if l, e := s.Begin(number, k, []byte{7}, now); len(l) != 1 || e != api.OK {
		t.Fatalf("P1403: Begin(%d, %v, .., %d) = %+v, %v", number, k, now, l, e)
	}
}

func refuses(t *testing.T, s *express.Sender, number uint64, k api.Key, block []byte, now uint64, want api.Errno) {
	t.Helper()
	if l, e := s.Begin(number, k, block, now); len(l) != 0 || e != want {
		t.Fatalf("P1403: Begin(%d, %v, %d bytes, %d) = %+v, %v, want %v", number, k, len(block), now, l, e, want)
	}
}

func ticks(t *testing.T, s *express.Sender, now uint64, want ...api.Key) {
	t.Helper()
	if l := s.Tick(now); !slices.Equal(l, want) {
		t.Fatalf("P1405: Tick(%d) = %v, want %v", now, l, want)
	}
}

func busy(t *testing.T, s *express.Sender, want ...api.Key) {
	t.Helper()
	if l := s.Busy(); !slices.Equal(l, want) {
		t.Fatalf("P1406: Busy = %v, want %v", l, want)
	}
}

func hears(t *testing.T, s *express.Sender, u api.Unit, k api.Key) {
	t.Helper()
	if d, ok := s.Hear(u); !ok || d != (api.Done{Key: k, Code: u.Code}) {
		t.Fatalf("P1404: Hear(%+v) = %v, %v, want %v", u, d, ok, k)
	}
}

func ignores(t *testing.T, s *express.Sender, u api.Unit) {
	t.Helper()
	if d, ok := s.Hear(u); ok || d != (api.Done{}) {
		t.Fatalf("P1404: Hear(%+v) = %v, %v", u, d, ok)
	}
}

func stops(t *testing.T, s *express.Sender, k api.Key, number uint64) {
	t.Helper()
	if n, ok := s.Stop(k); n != number || ok != (number > 0) {
		t.Fatalf("P1406: Stop(%v) = %d, %v, want %d", k, n, ok, number)
	}
}

func sameUnit(a, b api.Unit) bool {
	return a.Kind == b.Kind && a.Epoch == b.Epoch && a.Session == b.Session && a.Path == b.Path && a.Index == b.Index && a.Count == b.Count &&
		bytes.Equal(a.Data, b.Data) && a.Code == b.Code && slices.Equal(a.Got, b.Got)
}

// unitsOf: what Begin must answer, as the chapter says it.
func unitsOf(epoch, number uint64, block []byte, mtu int) (l []api.Unit) {
	count := (len(block) + mtu - 1) / mtu
	for i := range count {
		l = append(l, api.Unit{Kind: api.Data, Epoch: epoch, Session: number, Path: api.Express, Index: i, Count: count, Data: block[i*mtu : min(i*mtu+mtu, len(block))]})
	}
	return l
}

// TestExamples: the chapter's, in their order, on one sender.
func TestExamples(t *testing.T) {
	s := fresh(t, config(), 3, 100)
	busy(t, s)
	block := text(20)
	l, e := s.Begin(1, key(2, 5), block, 100)
	if e != api.OK || !slices.EqualFunc(l, unitsOf(3, 1, block, 16), sameUnit) || len(l) != 2 || len(l[0].Data) != 16 || len(l[1].Data) != 4 {
		t.Fatalf("P1403: Begin = %+v, %v", l, e)
	}
	one := []byte{1}
	refuses(t, s, 1, key(2, 6), one, 100, api.ErrTwice)
	refuses(t, s, 2, key(2, 5), one, 100, api.ErrTwice)
	refuses(t, s, 0, key(2, 6), one, 100, api.ErrArg)
	refuses(t, s, 2, key(8, 0), one, 100, api.ErrArg)
	refuses(t, s, 2, key(2, 6), nil, 100, api.ErrArg)

	ticks(t, s, 109)
	busy(t, s, key(2, 5))
	ticks(t, s, 110, key(2, 5))
	busy(t, s)
	ticks(t, s, 200)

	begins(t, s, 2, key(2, 5), 90)
	part := report(3, 2, 0)
	part.Got = []api.Range{{From: 0, To: 1}}
	ignores(t, s, part)
	ignores(t, s, report(2, 2, api.Stored))
	ticks(t, s, 209)
	hears(t, s, report(3, 2, api.Stored), key(2, 5))
	ignores(t, s, report(3, 2, api.Stored))

	a, b := key(0, 1), key(7, api.MaxNumber)
	begins(t, s, 3, a, 0)
	begins(t, s, 4, b, 0)
	stops(t, s, a, 3)
	stops(t, s, a, 0)
	busy(t, s, b)

	ticks(t, s, 1<<48-1, b)
	begins(t, s, 5, a, 1<<48-1)
	busy(t, s, a)
	ticks(t, s, 0, a)
	busy(t, s)
}

// TestNew: configs with one fault each, epochs about their ends.
func TestNew(t *testing.T) {
	for _, epoch := range []uint64{0, 1, 2, api.MaxNumber - 1, api.MaxNumber, api.MaxNumber + 1, math.MaxUint64} {
		s, e := express.New(config(), epoch, 5)
		if good := epoch >= 1 && epoch <= api.MaxNumber; good != (e == api.OK) || good != (s != nil) || !good && e != api.ErrArg {
			t.Errorf("P1402: New of the epoch %d = %v, %v", epoch, s, e)
		}
	}
	for i, change := range []func(c *api.Config){
		func(c *api.Config) { c.Mtu = 15 }, func(c *api.Config) { c.Mtu = 1025 }, func(c *api.Config) { c.Mtu = -16 },
		func(c *api.Config) { c.AckTime = 0 }, func(c *api.Config) { c.AckTime = 4097 }, func(c *api.Config) { c.AckTime = math.MaxUint64 },
		func(c *api.Config) { c.RetryTime = 0 }, func(c *api.Config) { c.RetryTime = 4097 },
		func(c *api.Config) { c.Retries = -1 }, func(c *api.Config) { c.Retries = 17 },
		func(c *api.Config) { c.Window = 0 }, func(c *api.Config) { c.Window, c.Inbox = 9, 9 },
		func(c *api.Config) { c.Inbox = 0 }, func(c *api.Config) { c.Inbox = 33 },
		func(c *api.Config) { *c = api.Config{} },
	} {
		c := config()
		change(&c)
		if s, e := express.New(c, 3, 5); s != nil || e != api.ErrArg {
			t.Errorf("P1402: New of the wrong config %d = %v, %v", i, s, e)
		}
	}
	for _, c := range []api.Config{{Mtu: 16, AckTime: 1, RetryTime: 1, Window: 1, Inbox: 1}, {Mtu: 1024, AckTime: 4096, RetryTime: 4096, Retries: 16, Window: 8, Inbox: 32}} {
		busy(t, fresh(t, c, 3, 5))
	}
}

// TestNewClock: a sender's clock is New's now, or the greatest time there is.
func TestNewClock(t *testing.T) {
	for _, now := range []uint64{0, 1, 5, 1 << 40, api.MaxNumber - 11, api.MaxNumber - 10, api.MaxNumber - 9, api.MaxNumber - 1} {
		s := fresh(t, config(), 3, now)
		begins(t, s, 1, key(0, 0), 0)
		over := min(now+10, api.MaxNumber)
		ticks(t, s, 0)
		ticks(t, s, over-1)
		ticks(t, s, over, key(0, 0))
	}
	for _, now := range []uint64{api.MaxNumber, api.MaxNumber + 1, math.MaxUint64} {
		s := fresh(t, config(), 3, now)
		ticks(t, s, now)
		begins(t, s, 1, key(0, 0), 0)
		begins(t, s, 2, key(0, 1), math.MaxUint64)
		ticks(t, s, 0, key(0, 0), key(0, 1))
		ticks(t, s, math.MaxUint64)
	}
}

// TestNoSender: a nil one, and one that New did not make.
func TestNoSender(t *testing.T) {
	var none *express.Sender
	for _, s := range []*express.Sender{none, {}, new(express.Sender)} {
		for _, number := range []uint64{0, 1} {
			if l, e := s.Begin(number, key(0, 1), []byte{1}, 5); len(l) != 0 || e != api.ErrArg {
				t.Errorf("P1401: Begin = %v, %v", l, e)
			}
		}
		if d, ok := s.Hear(report(1, 1, api.Stored)); ok || d != (api.Done{}) {
			t.Errorf("P1401: Hear = %v, %v", d, ok)
		}
		if d, ok := s.Hear(api.Unit{}); ok || d != (api.Done{}) {
			t.Errorf("P1401: Hear = %v, %v", d, ok)
		}
		if n, ok := s.Stop(key(0, 1)); ok || n != 0 {
			t.Errorf("P1401: Stop = %d, %v", n, ok)
		}
		if n, ok := s.Stop(api.Key{}); ok || n != 0 {
			t.Errorf("P1401: Stop = %d, %v", n, ok)
		}
		if len(s.Tick(5)) != 0 || len(s.Tick(math.MaxUint64)) != 0 || len(s.Busy()) != 0 {
			t.Errorf("P1401: Tick = %v, Busy = %v", s.Tick(5), s.Busy())
		}
	}
}

// TestBeginArguments: each argument about its ends; nothing changes by what is refused.
func TestBeginArguments(t *testing.T) {
	one := []byte{1}
	for _, number := range []uint64{0, 1, 2, api.MaxNumber, api.MaxNumber + 1, math.MaxUint64} {
		for _, stream := range []int{math.MinInt, -1, 0, 1, 7, 8, math.MaxInt} {
			for _, seq := range []uint64{0, 1, api.MaxNumber, api.MaxNumber + 1, math.MaxUint64} {
				for _, n := range []int{0, 1, 16, 1024, 1025, 100000} {
					s := fresh(t, config(), 3, 100)
					k, block := key(stream, seq), text(n)
					if number < 1 || number > api.MaxNumber || stream < 0 || stream > 7 || seq > api.MaxNumber || n < 1 || n > 1024 {
						refuses(t, s, number, k, block, 5000, api.ErrArg)
						busy(t, s)
						begins(t, s, 9, key(5, 5), 0)
						ticks(t, s, 109) // the clock has not gone on
						ticks(t, s, 110, key(5, 5))
						continue
					}
					l, e := s.Begin(number, k, block, 100)
					if e != api.OK || !slices.EqualFunc(l, unitsOf(3, number, block, 16), sameUnit) {
						t.Fatalf("P1403: Begin(%d, %v, %d bytes) = %+v, %v", number, k, n, l, e)
					}
					busy(t, s, k)
					refuses(t, s, number, k, one, 100, api.ErrTwice)
				}
			}
		}
	}
	s := fresh(t, config(), 3, 0)
	refuses(t, s, 1, key(0, 0), []byte{}, 0, api.ErrArg)
}

// TestErrorsByTheirOrder: of several errors the one that the chapter names first; with each of them the clock stays.
func TestErrorsByTheirOrder(t *testing.T) {
	s := fresh(t, config(), 3, 100)
	var all []api.Key
	for n := range uint64(api.MaxPending) {
		begins(t, s, 1+n, key(int(n%8), n), 100)
		all = append(all, key(int(n%8), n))
	}
	one := []byte{1}
	refuses(t, s, 65, key(0, 64), one, 5000, api.ErrFull)
	refuses(t, s, 1, key(0, 64), one, 5000, api.ErrTwice)   // the number is there, and there is no room
	refuses(t, s, 65, key(1, 1), one, 5000, api.ErrTwice)   // the key is
	refuses(t, s, 1, key(1, 1), one, 5000, api.ErrTwice)    // each of them is, of another session
	refuses(t, s, 1, key(8, 0), one, 5000, api.ErrArg)      // a number that is there and a wrong key
	refuses(t, s, 0, key(0, 0), one, 5000, api.ErrArg)      // a key that is there and a wrong number
	refuses(t, s, 1, key(0, 0), nil, 5000, api.ErrArg)      // a session that is there and a wrong block
	refuses(t, s, 65, key(0, 64), nil, 5000, api.ErrArg)    // no room and a wrong block
	refuses(t, s, 65, key(-1, 64), one, 5000, api.ErrArg)   // no room and a wrong key
	refuses(t, s, 1<<48, key(0, 64), one, 5000, api.ErrArg) // no room and a wrong number
	busy(t, s, all...)
	ticks(t, s, 109)
	stops(t, s, all[10], 11)
	begins(t, s, 65, key(0, 64), 109)
	refuses(t, s, 11, all[10], one, 5000, api.ErrFull)
	hears(t, s, report(3, 20, api.Stored), all[19])
	begins(t, s, 11, all[10], 110) // its time is over at 120
	refuses(t, s, 20, all[19], one, 5000, api.ErrFull)
	left := slices.Concat(all[:10], all[11:19], all[20:])
	busy(t, s, slices.Concat(left, []api.Key{key(0, 64), all[10]})...)
	ticks(t, s, 110, left...)
	ticks(t, s, 118)
	ticks(t, s, 119, key(0, 64))
	ticks(t, s, 120, all[10])
}

// TestRoomByTick: what is late has its room until a Tick tells it.
func TestRoomByTick(t *testing.T) {
	s := fresh(t, config(), 3, 0)
	var all []api.Key
	for n := range uint64(api.MaxPending) {
		begins(t, s, 1+n, key(0, n), 100*n) // each begins when the time of the one ahead is over
		all = append(all, key(0, n))
	}
	busy(t, s, all...)
	refuses(t, s, 100, key(0, 100), []byte{1}, 100000, api.ErrFull)
	ticks(t, s, 0, all[:63]...)
	busy(t, s, all[63])
	begins(t, s, 100, key(0, 100), 6400)
	ticks(t, s, 6409, all[63])
	ticks(t, s, 6410, key(0, 100))
}

// TestBeginMovesTheClock: and ends nothing; the next Tick does, whatever its time, and a report is heard till then.
func TestBeginMovesTheClock(t *testing.T) {
	s := fresh(t, config(), 3, 100)
	begins(t, s, 1, key(0, 1), 100)
	begins(t, s, 2, key(0, 2), 105)
	begins(t, s, 3, key(0, 3), 500)
	busy(t, s, key(0, 1), key(0, 2), key(0, 3))
	hears(t, s, report(3, 2, api.Unheard), key(0, 2))
	refuses(t, s, 1, key(0, 9), []byte{1}, 600, api.ErrTwice)
	begins(t, s, 4, key(0, 4), 90) // the clock is 500
	ticks(t, s, 7, key(0, 1))
	ticks(t, s, 509)
	ticks(t, s, 510, key(0, 3), key(0, 4))
	begins(t, s, 5, key(0, 5), math.MaxUint64)
	begins(t, s, 6, key(0, 6), 0)
	busy(t, s, key(0, 5), key(0, 6))
	ticks(t, s, 0, key(0, 5), key(0, 6))
	begins(t, s, 7, key(0, 7), 0)
	ticks(t, s, 0, key(0, 7))
}

// TestTickGoesBackNever: a time below the clock counts as the clock.
func TestTickGoesBackNever(t *testing.T) {
	s := fresh(t, config(), 3, 100)
	ticks(t, s, 300)
	ticks(t, s, 50)
	begins(t, s, 1, key(0, 1), 60)
	ticks(t, s, 309)
	ticks(t, s, 0)
	ticks(t, s, 310, key(0, 1))
}

// badReports: units of that epoch and session that are no report with a code, each with one fault.
func badReports(epoch, session uint64) []api.Unit {
	var l []api.Unit
	with := func(change func(u *api.Unit)) {
		u := report(epoch, session, api.Stored)
		change(&u)
		l = append(l, u)
	}
	for _, kind := range []int{math.MinInt, -1, 0, api.Data, api.Cancel, 4, math.MaxInt} {
		with(func(u *api.Unit) { u.Kind = kind })
	}
	for _, n := range []uint64{0, epoch - 1, epoch + 1, 1 << 48, epoch + 1<<48, math.MaxUint64} {
		with(func(u *api.Unit) { u.Epoch = n })
	}
	for _, n := range []uint64{0, session + 1<<48, session + 1<<32, math.MaxUint64} {
		with(func(u *api.Unit) { u.Session = n })
	}
	for _, code := range []int{math.MinInt, -1, 0, 8, math.MaxInt} {
		with(func(u *api.Unit) { u.Code = code })
	}
	with(func(u *api.Unit) { u.Code, u.Got = 0, []api.Range{{From: 0, To: 1}} })
	with(func(u *api.Unit) { u.Got = []api.Range{{From: 0, To: 1}} })
	with(func(u *api.Unit) { u.Path = api.Express })
	with(func(u *api.Unit) { u.Index = 1 })
	with(func(u *api.Unit) { u.Count = 1 })
	with(func(u *api.Unit) { u.Data = []byte{1} })
	return append(l, api.Unit{},
		api.Unit{Kind: api.Cancel, Epoch: epoch, Session: session},
		api.Unit{Kind: api.Data, Epoch: epoch, Session: session, Path: api.Express, Count: 1, Data: []byte{1}})
}

// TestHear: each code of a report ends its session; whatever is none changes nothing.
func TestHear(t *testing.T) {
	for code := api.Stored; code <= api.Cancelled; code++ {
		s := fresh(t, config(), 3, 100)
		begins(t, s, 7, key(0, 1), 100)
		begins(t, s, 5, key(0, 2), 100)
		begins(t, s, 6, key(0, 3), 100)
		for _, u := range badReports(3, 5) {
			ignores(t, s, u)
			busy(t, s, key(0, 1), key(0, 2), key(0, 3))
		}
		ignores(t, s, report(3, 1, code))
		ignores(t, s, report(3, 8, code))
		u := report(3, 5, code)
		u.Data, u.Got = []byte{}, []api.Range{} // the same as none
		hears(t, s, u, key(0, 2))
		busy(t, s, key(0, 1), key(0, 3))
		ignores(t, s, u)
		ticks(t, s, 110, key(0, 1), key(0, 3))
		ignores(t, s, report(3, 7, code))
	}
}

// TestEndsOfNumbers: epochs, sessions and keys at their greatest.
func TestEndsOfNumbers(t *testing.T) {
	s := fresh(t, config(), api.MaxNumber, 0)
	k := key(7, api.MaxNumber)
	for _, number := range []uint64{1, 1 << 31, 1 << 32, 1<<32 + 1, api.MaxNumber - 1, api.MaxNumber} {
		l, e := s.Begin(number, k, []byte{1, 2}, 0)
		if e != api.OK || !slices.EqualFunc(l, unitsOf(api.MaxNumber, number, []byte{1, 2}, 16), sameUnit) {
			t.Fatalf("P1403: Begin = %+v, %v", l, e)
		}
		hears(t, s, report(api.MaxNumber, number, api.TooOld), k)
		begins(t, s, number, k, 0)
		stops(t, s, k, number)
	}
	var keys []api.Key
	for i := range 48 {
		begins(t, s, 1<<i, key(0, 1<<i), 0)
		keys = append(keys, key(0, 1<<i))
	}
	busy(t, s, keys...)
	hears(t, s, report(api.MaxNumber, 1<<47, api.TooLate), keys[47])
	stops(t, s, keys[0], 1)
	ticks(t, s, 10, keys[1:47]...)
}

// TestStop: keys that are there, that were, that never can be.
func TestStop(t *testing.T) {
	s := fresh(t, config(), 3, 100)
	for n := range uint64(6) {
		begins(t, s, 10+n, key(int(n%2), 5+n/2), 100)
	}
	for _, k := range []api.Key{{}, key(2, 5), key(0, 4), key(0, 8), key(-1, 5), key(8, 5), key(math.MinInt, 5), key(0, math.MaxUint64), key(0, 5+1<<48)} {
		stops(t, s, k, 0)
	}
	busy(t, s, key(0, 5), key(1, 5), key(0, 6), key(1, 6), key(0, 7), key(1, 7))
	stops(t, s, key(0, 6), 12)
	stops(t, s, key(0, 6), 0)
	ignores(t, s, report(3, 12, api.Stored))
	busy(t, s, key(0, 5), key(1, 5), key(1, 6), key(0, 7), key(1, 7))
	begins(t, s, 12, key(0, 6), 101) // anew, with the same number and another time
	busy(t, s, key(0, 5), key(1, 5), key(1, 6), key(0, 7), key(1, 7), key(0, 6))
	ticks(t, s, 110, key(0, 5), key(1, 5), key(1, 6), key(0, 7), key(1, 7))
	stops(t, s, key(0, 5), 0)
	stops(t, s, key(0, 6), 12)
	ticks(t, s, 1000)
}

// TestOrder: by when they began, neither by number nor by key.
func TestOrder(t *testing.T) {
	s := fresh(t, config(), 3, 100)
	numbers := []uint64{9, 2, 7, 1, 8, 3}
	keys := []api.Key{key(3, 1), key(0, 9), key(7, 0), key(3, 0), key(1, 4), key(0, 2)}
	for i, n := range numbers {
		begins(t, s, n, keys[i], 100+uint64(i/3))
	}
	busy(t, s, keys...)
	stops(t, s, keys[1], 2)
	begins(t, s, 2, keys[1], 101)
	busy(t, s, keys[0], keys[2], keys[3], keys[4], keys[5], keys[1])
	ticks(t, s, 109)
	ticks(t, s, 200, keys[0], keys[2], keys[3], keys[4], keys[5], keys[1])
}

// TestOrderAtTheEnd: times that are cut off at MaxNumber, some of them set ahead of it and some at it: still in the order in which they began.
func TestOrderAtTheEnd(t *testing.T) {
	for _, last := range []uint64{api.MaxNumber, math.MaxUint64} {
		s := fresh(t, config(), 3, api.MaxNumber-12)
		begins(t, s, 6, key(0, 6), 0)                // over at MaxNumber - 2
		begins(t, s, 5, key(0, 5), api.MaxNumber-10) // over at MaxNumber
		begins(t, s, 4, key(0, 4), api.MaxNumber-9)
		begins(t, s, 3, key(0, 3), api.MaxNumber-1)
		ticks(t, s, 0, key(0, 6))
		begins(t, s, 2, key(0, 2), last)
		begins(t, s, 1, key(0, 1), last)
		busy(t, s, key(0, 5), key(0, 4), key(0, 3), key(0, 2), key(0, 1))
		stops(t, s, key(0, 4), 4)
		hears(t, s, report(3, 2, api.Stored), key(0, 2))
		ticks(t, s, 0, key(0, 5), key(0, 3), key(0, 1))
		busy(t, s)
		begins(t, s, 9, key(0, 5), 0)
		begins(t, s, 8, key(0, 4), 0)
		busy(t, s, key(0, 5), key(0, 4))
		ticks(t, s, last, key(0, 5), key(0, 4))
		ticks(t, s, last)
	}
}

// TestTwoSenders: what is done to one is nothing to the other.
func TestTwoSenders(t *testing.T) {
	a, b := fresh(t, config(), 3, 100), fresh(t, config(), 4, 100)
	begins(t, a, 1, key(0, 1), 100)
	begins(t, b, 1, key(0, 1), 200)
	ignores(t, a, report(4, 1, api.Stored))
	hears(t, b, report(4, 1, api.Stored), key(0, 1))
	busy(t, b)
	ticks(t, a, 109)
	ticks(t, a, 110, key(0, 1))
}
