package freight_test

import (
	"bytes"
	"math"
	"slices"
	"testing"

	"halyard/api"
	"halyard/freight"
)

func config() api.Config {
	return api.Config{Mtu: 16, AckTime: 3, RetryTime: 10, Retries: 1, Window: 1, Inbox: 8}
}

// with: the config, with so many retries and such a window.
func with(retries, window int) api.Config {
	c := config()
	c.Retries, c.Window = retries, window
	return c
}

func fresh(t *testing.T, c api.Config, epoch, now uint64) *freight.Sender {
	t.Helper()
	s, e := freight.New(c, epoch, now)
	if s == nil || e != api.OK {
		t.Fatalf("P1502: New(%+v, %d, %d) = %v, %v", c, epoch, now, s, e)
	}
	return s
}

func key(stream int, seq uint64) api.Key { return api.Key{Stream: stream, Seq: seq} }

func report(epoch, session uint64, code int, got ...api.Range) api.Unit {
	return api.Unit{Kind: api.Report, Epoch: epoch, Session: session, Code: code, Got: got}
}

func span(from, to int) api.Range { return api.Range{From: from, To: to} }

// text: so many bytes, of which no two neighbouring segments are the same.
func text(n int) []byte {
	b := make([]byte, n)
	for i := range b {
		b[i] = byte(i ^ i>>3 + n)
	}
	return b
}

func queues(t *testing.T, s *freight.Sender, k api.Key, block []byte) {
	t.Helper()
	if e := s.Queue(k, block); e != api.OK {
		t.Fatalf("P1503: Queue(%v, %d bytes) = %v", k, len(block), e)
	}
}

func refuses(t *testing.T, s *freight.Sender, k api.Key, block []byte, want api.Errno) {
	t.Helper()
	if e := s.Queue(k, block); e != want {
		t.Fatalf("P1503: Queue(%v, %d bytes) = %v, want %v", k, len(block), e, want)
	}
}

func runs(t *testing.T, s *freight.Sender, next, now uint64, count int, want ...api.Unit) {
	t.Helper()
	if n, l := s.Run(next, now); n != count || !slices.EqualFunc(l, want, sameUnit) {
		t.Fatalf("P1504: Run(%d, %d) = %d, %+v, want %d, %+v", next, now, n, l, count, want)
	}
}

// sends: a Tick by which just that is sent again, and nothing is lost.
func sends(t *testing.T, s *freight.Sender, now uint64, want ...api.Unit) {
	t.Helper()
	if l, lost := s.Tick(now); len(lost) != 0 || !slices.EqualFunc(l, want, sameUnit) {
		t.Fatalf("P1506: Tick(%d) = %+v, %v, want %+v", now, l, lost, want)
	}
}

// loses: a Tick by which just these are lost, and nothing is sent again.
func loses(t *testing.T, s *freight.Sender, now uint64, want ...api.Key) {
	t.Helper()
	if l, lost := s.Tick(now); len(l) != 0 || !slices.Equal(lost, want) {
		t.Fatalf("P1506: Tick(%d) = %+v, %v, want %v", now, l, lost, want)
	}
}

func waiting(t *testing.T, s *freight.Sender, want ...api.Key) {
	t.Helper()
	if l := s.Waiting(); !slices.Equal(l, want) {
		t.Fatalf("P1507: Waiting = %v, want %v", l, want)
	}
}

func busy(t *testing.T, s *freight.Sender, want ...api.Key) {
	t.Helper()
	if l := s.Busy(); !slices.Equal(l, want) {
		t.Fatalf("P1507: Busy = %v, want %v", l, want)
	}
}

func hears(t *testing.T, s *freight.Sender, u api.Unit, k api.Key) {
	t.Helper()
	if d, ok := s.Hear(u); !ok || d != (api.Done{Key: k, Code: u.Code}) {
		t.Fatalf("P1505: Hear(%+v) = %v, %v, want %v", u, d, ok, k)
	}
}

// ignores: it tells nothing.
func ignores(t *testing.T, s *freight.Sender, u api.Unit) {
	t.Helper()
	if d, ok := s.Hear(u); ok || d != (api.Done{}) {
		t.Fatalf("P1505: Hear(%+v) = %v, %v", u, d, ok)
	}
}

func stops(t *testing.T, s *freight.Sender, k api.Key, number uint64, was bool) {
	t.Helper()
	if n, ok := s.Stop(k); n != number || ok != was {
		t.Fatalf("P1507: Stop(%v) = %d, %v, want %d, %v", k, n, ok, number, was)
	}
}

func sameUnit(a, b api.Unit) bool {
	return a.Kind == b.Kind && a.Epoch == b.Epoch && a.Session == b.Session && a.Path == b.Path && a.Index == b.Index && a.Count == b.Count &&
		bytes.Equal(a.Data, b.Data) && a.Code == b.Code && slices.Equal(a.Got, b.Got)
}

// unitsOf: a session's units of all its segments, as the chapter says it.
func unitsOf(epoch, number uint64, block []byte, mtu int) (l []api.Unit) {
	count := (len(block) + mtu - 1) / mtu
	for i := range count {
		l = append(l, api.Unit{Kind: api.Data, Epoch: epoch, Session: number, Path: api.Freight, Index: i, Count: count, Data: block[i*mtu : min(i*mtu+mtu, len(block))]})
	}
	return l
}

// TestExamples: the chapter's, in their order, on one sender.
func TestExamples(t *testing.T) {
	s := fresh(t, config(), 3, 100)
	a, b := key(0, 1), key(0, 2)
	forty, five := text(40), text(5)
	queues(t, s, a, forty)
	queues(t, s, b, five)
	refuses(t, s, a, forty, api.ErrTwice)
	ofA := unitsOf(3, 7, forty, 16)
	if len(ofA) != 3 || len(ofA[2].Data) != 8 {
		t.Fatalf("the test's own units are %+v", ofA)
	}
	runs(t, s, 7, 100, 1, ofA...)
	runs(t, s, 8, 100, 0)
	waiting(t, s, b)
	busy(t, s, a)

	ignores(t, s, report(3, 7, 0, span(0, 1), span(2, 9)))
	sends(t, s, 109)
	sends(t, s, 110, ofA[1])
	loses(t, s, 120, a)
	ofB := unitsOf(3, 8, five, 16)
	runs(t, s, 8, 120, 1, ofB...)

	ignores(t, s, report(3, 8, 0, span(0, 1)))
	sends(t, s, 130, ofB...)
	hears(t, s, report(3, 8, api.Stored), b)

	runs(t, s, 8, 130, 0)
	queues(t, s, b, five)
	stops(t, s, b, 0, true)
	stops(t, s, b, 0, false)

	queues(t, s, a, forty)
	runs(t, s, 0, 130, 0)
	runs(t, s, 1<<48, 130, 0)
	runs(t, s, 9, 130, 1, unitsOf(3, 9, forty, 16)...)
	runs(t, s, 9, 130, 0)

	s = fresh(t, with(0, 1), 3, 100)
	queues(t, s, a, forty)
	runs(t, s, 1, 100, 1, unitsOf(3, 1, forty, 16)...)
	loses(t, s, 109)
	loses(t, s, 110, a)
}

// TestNew: configs with one fault each, epochs about their ends.
func TestNew(t *testing.T) {
	for _, epoch := range []uint64{0, 1, 2, api.MaxNumber - 1, api.MaxNumber, api.MaxNumber + 1, math.MaxUint64} {
		s, e := freight.New(config(), epoch, 5)
		if good := epoch >= 1 && epoch <= api.MaxNumber; good != (e == api.OK) || good != (s != nil) || !good && e != api.ErrArg {
			t.Errorf("P1502: New of the epoch %d = %v, %v", epoch, s, e)
		}
	}
	for i, change := range []func(c *api.Config){
		func(c *api.Config) { c.Mtu = 15 }, func(c *api.Config) { c.Mtu = 1025 }, func(c *api.Config) { c.Mtu = -16 },
		func(c *api.Config) { c.AckTime = 0 }, func(c *api.Config) { c.AckTime = 4097 },
		func(c *api.Config) { c.RetryTime = 0 }, func(c *api.Config) { c.RetryTime = 4097 }, func(c *api.Config) { c.RetryTime = math.MaxUint64 },
		func(c *api.Config) { c.Retries = -1 }, func(c *api.Config) { c.Retries = 17 },
		func(c *api.Config) { c.Window = 0 }, func(c *api.Config) { c.Window, c.Inbox = 9, 9 },
		func(c *api.Config) { c.Inbox = 0 }, func(c *api.Config) { c.Inbox = 33 },
		func(c *api.Config) { *c = api.Config{} },
	} {
		c := config()
		change(&c)
		if s, e := freight.New(c, 3, 5); s != nil || e != api.ErrArg {
			t.Errorf("P1502: New of the wrong config %d = %v, %v", i, s, e)
		}
	}
	for _, c := range []api.Config{{Mtu: 16, AckTime: 1, RetryTime: 1, Window: 1, Inbox: 1}, {Mtu: 1024, AckTime: 4096, RetryTime: 4096, Retries: 16, Window: 8, Inbox: 32}} {
		s := fresh(t, c, 3, 5)
		busy(t, s)
		waiting(t, s)
	}
}

// TestNewClock: a sender's clock is New's now, or the greatest time there is.
func TestNewClock(t *testing.T) {
	one := []byte{1}
	for _, now := range []uint64{0, 1, 5, 1 << 40, api.MaxNumber - 11, api.MaxNumber - 10, api.MaxNumber - 9, api.MaxNumber - 1} {
		s := fresh(t, with(0, 1), 3, now)
		queues(t, s, key(0, 0), one)
		runs(t, s, 1, 0, 1, unitsOf(3, 1, one, 16)...)
		over := min(now+10, api.MaxNumber)
		loses(t, s, 0)
		loses(t, s, over-1)
		loses(t, s, over, key(0, 0))
	}
	for _, now := range []uint64{api.MaxNumber, api.MaxNumber + 1, math.MaxUint64} {
		s := fresh(t, with(0, 2), 3, now)
		loses(t, s, now)
		queues(t, s, key(0, 0), one)
		runs(t, s, 1, 0, 1, unitsOf(3, 1, one, 16)...)
		queues(t, s, key(0, 1), one)
		runs(t, s, 2, math.MaxUint64, 1, unitsOf(3, 2, one, 16)...)
		loses(t, s, 0, key(0, 0), key(0, 1))
		loses(t, s, math.MaxUint64)
	}
}

// TestNoSender: a nil one, and one that New did not make.
func TestNoSender(t *testing.T) {
	var none *freight.Sender
	for _, s := range []*freight.Sender{none, {}, new(freight.Sender)} {
		for _, k := range []api.Key{key(0, 1), key(-1, 1)} {
			if e := s.Queue(k, []byte{1}); e != api.ErrArg {
				t.Errorf("P1501: Queue = %v", e)
			}
			if n, ok := s.Stop(k); ok || n != 0 {
				t.Errorf("P1501: Stop = %d, %v", n, ok)
			}
		}
		for _, next := range []uint64{0, 1, api.MaxNumber} {
			if n, l := s.Run(next, 5); n != 0 || len(l) != 0 {
				t.Errorf("P1501: Run = %d, %v", n, l)
			}
		}
		for _, u := range []api.Unit{{}, report(1, 1, api.Stored), report(1, 1, 0, span(0, 1))} {
			if d, ok := s.Hear(u); ok || d != (api.Done{}) {
				t.Errorf("P1501: Hear = %v, %v", d, ok)
			}
		}
		for _, now := range []uint64{0, 5, math.MaxUint64} {
			if l, lost := s.Tick(now); len(l)+len(lost) != 0 {
				t.Errorf("P1501: Tick = %v, %v", l, lost)
			}
		}
		if len(s.Waiting())+len(s.Busy()) != 0 {
			t.Errorf("P1501: Waiting = %v, Busy = %v", s.Waiting(), s.Busy())
		}
	}
}

// TestQueueArguments: each argument about its ends; nothing changes by what is refused.
func TestQueueArguments(t *testing.T) {
	for _, stream := range []int{math.MinInt, -1, 0, 1, 7, 8, math.MaxInt} {
		for _, seq := range []uint64{0, 1, api.MaxNumber, api.MaxNumber + 1, math.MaxUint64} {
			for _, n := range []int{0, 1, 16, 1023, 1024, 1025, 100000} {
				s := fresh(t, config(), 3, 100)
				k, block := key(stream, seq), text(n)
				if stream < 0 || stream > 7 || seq > api.MaxNumber || n < 1 || n > 1024 {
					refuses(t, s, k, block, api.ErrArg)
					waiting(t, s)
					runs(t, s, 1, 100, 0)
					continue
				}
				queues(t, s, k, block)
				waiting(t, s, k)
				refuses(t, s, k, block, api.ErrTwice)
				runs(t, s, 5, 100, 1, unitsOf(3, 5, block, 16)...)
				waiting(t, s)
				busy(t, s, k)
				refuses(t, s, k, block, api.ErrTwice)
			}
		}
	}
	refuses(t, fresh(t, config(), 3, 0), key(0, 0), nil, api.ErrArg)
	refuses(t, fresh(t, config(), 3, 0), key(0, 0), []byte{}, api.ErrArg)
}

// TestFull: MaxPending keys, those that wait and those under way together; errors by their order.
func TestFull(t *testing.T) {
	one := []byte{1}
	s := fresh(t, with(0, 3), 3, 100)
	var all []api.Key
	for n := range uint64(api.MaxPending) {
		k := key(int(n%8), n)
		queues(t, s, k, one)
		all = append(all, k)
	}
	late := key(0, 64)
	for i := range 2 {
		refuses(t, s, late, one, api.ErrFull)
		refuses(t, s, all[63], one, api.ErrTwice)   // it waits, and there is no room
		refuses(t, s, all[0], one, api.ErrTwice)    // it is under way, the second time
		refuses(t, s, all[0], nil, api.ErrArg)      // and a wrong block
		refuses(t, s, late, text(1025), api.ErrArg) // no room, and a wrong block
		refuses(t, s, key(8, 0), one, api.ErrArg)   // no room, and a wrong key
		if n, _ := s.Run(1, 100); i == 0 && n != 3 {
			t.Fatalf("P1504: Run = %d", n)
		}
	}
	waiting(t, s, all[3:]...)
	busy(t, s, all[:3]...)
	stops(t, s, all[1], 2, true)
	queues(t, s, late, one)
	refuses(t, s, all[1], one, api.ErrFull)
	stops(t, s, all[40], 0, true)
	queues(t, s, all[1], one)
	refuses(t, s, all[40], one, api.ErrFull)
	hears(t, s, report(3, 3, api.Stored), all[2])
	queues(t, s, all[40], one)
	refuses(t, s, all[2], one, api.ErrFull)
	loses(t, s, 110, all[0])
	queues(t, s, all[2], one)
	refuses(t, s, all[0], one, api.ErrFull)
	waiting(t, s, slices.Concat(all[3:40], all[41:], []api.Key{late, all[1], all[40], all[2]})...)
	busy(t, s)
}

// TestRunArguments: numbers about their ends, and about those that are under way; where nothing runs the clock stays.
func TestRunArguments(t *testing.T) {
	one := []byte{1}
	a, b := key(0, 1), key(0, 2)
	for _, number := range []uint64{1, 2, 9, 1 << 32, api.MaxNumber - 1} {
		for _, next := range []uint64{0, 1, number - 1, number, number + 1, api.MaxNumber, api.MaxNumber + 1, number + 1<<48, number + 1<<32, math.MaxUint64} {
			s := fresh(t, with(0, 2), 3, 100)
			queues(t, s, a, one)
			runs(t, s, number, 100, 1, unitsOf(3, number, one, 16)...)
			queues(t, s, b, one)
			if next <= number || next > api.MaxNumber {
				runs(t, s, next, 5000, 0)
				busy(t, s, a)
				waiting(t, s, b)
				loses(t, s, 109)
				loses(t, s, 110, a)
				continue
			}
			runs(t, s, next, 5000, 1, unitsOf(3, next, one, 16)...)
			busy(t, s, a, b)
			loses(t, s, 0, a)
			loses(t, s, 5009)
			loses(t, s, 5010, b)
		}
	}
}

// TestRunEndsWithTheNumbers: what finds no number waits on.
func TestRunEndsWithTheNumbers(t *testing.T) {
	one := []byte{1}
	for room := range uint64(6) {
		s := fresh(t, with(1, 4), 3, 100)
		var keys []api.Key
		for n := range uint64(6) {
			queues(t, s, key(0, n), one)
			keys = append(keys, key(0, n))
		}
		next := api.MaxNumber + 1 - room
		n := min(room, 4)
		var want []api.Unit
		for i := range n {
			want = append(want, unitsOf(3, next+i, one, 16)...)
		}
		runs(t, s, next, 100, int(n), want...)
		busy(t, s, keys[:n]...)
		waiting(t, s, keys[n:]...)
		if n == 0 {
			continue
		}
		sends(t, s, 110, want...)
		runs(t, s, api.MaxNumber, 110, 0) // it is under way, or the window is full
		stops(t, s, keys[n-1], next+n-1, true)
		waiting(t, s, keys[n:]...)
		runs(t, s, next+n-1, 110, 1, unitsOf(3, next+n-1, one, 16)...)
	}
}

// TestRunOfNone: it moves the clock all the same, where its number is a good one.
func TestRunOfNone(t *testing.T) {
	one := []byte{1}
	s := fresh(t, with(0, 1), 3, 100)
	runs(t, s, 1, 500, 0)
	queues(t, s, key(0, 1), one)
	runs(t, s, 1, 90, 1, unitsOf(3, 1, one, 16)...)
	loses(t, s, 509)
	runs(t, s, 2, 509, 0)
	busy(t, s, key(0, 1))
	runs(t, s, 2, 900, 0) // it ends nothing
	busy(t, s, key(0, 1))
	loses(t, s, 0, key(0, 1))
	queues(t, s, key(0, 1), one)
	runs(t, s, 1, 0, 1, unitsOf(3, 1, one, 16)...)
	loses(t, s, 909)
	loses(t, s, 910, key(0, 1))
}

// TestWindow: as many at a time as the config says, in the order of the row, also as room comes.
func TestWindow(t *testing.T) {
	for window := 1; window <= 8; window++ {
		s := fresh(t, with(0, window), 3, 100)
		var keys []api.Key
		blocks := map[api.Key][]byte{}
		for n := range uint64(20) {
			k := key(int(7-n%8), 50-n)
			blocks[k] = text(1 + int(n)*7)
			queues(t, s, k, blocks[k])
			keys = append(keys, k)
		}
		next := uint64(1)
		for len(keys) > 0 {
			n := min(window, len(keys))
			var want []api.Unit
			for i, k := range keys[:n] {
				want = append(want, unitsOf(3, next+uint64(i), blocks[k], 16)...)
			}
			runs(t, s, next, 100, n, want...)
			runs(t, s, next+uint64(n), 100, 0)
			busy(t, s, keys[:n]...)
			waiting(t, s, keys[n:]...)
			for i := n - 1; i >= 0; i-- { // the last one of them first
				if number := next + uint64(i); i%2 == 0 {
					hears(t, s, report(3, number, api.Stored), keys[i])
				} else {
					stops(t, s, keys[i], number, true)
				}
			}
			next += uint64(n)
			keys = keys[n:]
		}
	}
}

// badReports: units of that epoch and session that are no report, each with one fault.
func badReports(epoch, session uint64) []api.Unit {
	var l []api.Unit
	for _, good := range []api.Unit{report(epoch, session, api.Stored), report(epoch, session, 0, span(0, 2))} {
		but := func(change func(u *api.Unit)) {
			u := good
			u.Got = slices.Clone(good.Got)
			change(&u)
			l = append(l, u)
		}
		for _, kind := range []int{math.MinInt, -1, 0, api.Data, api.Cancel, 4, math.MaxInt} {
			but(func(u *api.Unit) { u.Kind = kind })
		}
		for _, n := range []uint64{0, epoch - 1, epoch + 1, 1 << 48, epoch + 1<<48, math.MaxUint64} {
			but(func(u *api.Unit) { u.Epoch = n })
		}
		for _, n := range []uint64{0, session + 1<<48, session + 1<<32, math.MaxUint64} {
			but(func(u *api.Unit) { u.Session = n })
		}
		for _, code := range []int{math.MinInt, -1, 8, math.MaxInt} {
			but(func(u *api.Unit) { u.Code = code })
		}
		for _, got := range [][]api.Range{{span(0, 0)}, {span(1, 0)}, {span(-1, 1)}, {span(0, 65)}, {span(64, 65)}, {span(0, 1), span(1, 2)}, {span(1, 2), span(0, 1)}, {span(0, 1), span(0, 1)}, {span(0, math.MaxInt)}} {
			but(func(u *api.Unit) { u.Got = got })
		}
		but(func(u *api.Unit) { u.Path = api.Freight })
		but(func(u *api.Unit) { u.Index = 1 })
		but(func(u *api.Unit) { u.Count = 1 })
		but(func(u *api.Unit) { u.Data = []byte{1} })
	}
	return append(l, api.Unit{}, report(epoch, session, api.Stored, span(0, 1)),
		api.Unit{Kind: api.Cancel, Epoch: epoch, Session: session},
		api.Unit{Kind: api.Data, Epoch: epoch, Session: session, Path: api.Freight, Count: 1, Data: []byte{1}})
}

// TestHear: each code of a report ends its session; whatever is no report changes nothing.
func TestHear(t *testing.T) {
	block := text(40)
	for code := api.Stored; code <= api.Cancelled; code++ {
		s := fresh(t, with(1, 3), 3, 100)
		keys := []api.Key{key(0, 3), key(0, 1), key(0, 2)}
		var all []api.Unit
		for i, k := range keys {
			queues(t, s, k, block)
			all = append(all, unitsOf(3, uint64(5+i), block, 16)...)
		}
		runs(t, s, 5, 100, 3, all...)
		for _, u := range badReports(3, 6) {
			ignores(t, s, u)
			busy(t, s, keys...)
		}
		ignores(t, s, report(3, 4, code))
		ignores(t, s, report(3, 8, code))
		ignores(t, s, report(3, 8, 0, span(0, 3)))
		sends(t, s, 110, all...) // nothing was told
		u := report(3, 6, code)
		u.Data, u.Got = []byte{}, []api.Range{} // the same as none
		hears(t, s, u, keys[1])
		busy(t, s, keys[0], keys[2])
		ignores(t, s, u)
		loses(t, s, 120, keys[0], keys[2])
		ignores(t, s, report(3, 5, code))
		ignores(t, s, report(3, 5, 0, span(0, 1)))
	}
}

// TestHearOfWaiting: a report of a number that no session has yet tells nothing of what gets it later.
func TestHearOfWaiting(t *testing.T) {
	s := fresh(t, config(), 3, 100)
	block := text(40)
	queues(t, s, key(0, 1), block)
	ignores(t, s, report(3, 1, api.Stored))
	ignores(t, s, report(3, 1, 0, span(0, 2)))
	waiting(t, s, key(0, 1))
	runs(t, s, 1, 100, 1, unitsOf(3, 1, block, 16)...)
	sends(t, s, 110, unitsOf(3, 1, block, 16)...)
}

// TestTold: reports add up; numbers that are no segment's tell nothing; what is told stays so.
func TestTold(t *testing.T) {
	block := text(16*5 + 1) // six segments
	all := unitsOf(3, 1, block, 16)
	s := fresh(t, with(16, 1), 3, 0)
	queues(t, s, key(0, 1), block)
	runs(t, s, 1, 0, 1, all...)
	ignores(t, s, report(3, 1, 0))
	sends(t, s, 10, all...)
	ignores(t, s, report(3, 1, 0, span(6, 64)))
	sends(t, s, 20, all...)
	ignores(t, s, report(3, 1, 0, span(1, 2), span(4, 5)))
	sends(t, s, 30, all[0], all[2], all[3], all[5])
	ignores(t, s, report(3, 1, 0))
	ignores(t, s, report(3, 1, 0, span(0, 1)))
	sends(t, s, 40, all[2], all[3], all[5])
	ignores(t, s, report(3, 1, 0, span(5, 64)))
	sends(t, s, 50, all[2], all[3])
	ignores(t, s, report(3, 1, 0, span(0, 3)))
	sends(t, s, 60, all[3])
	ignores(t, s, report(3, 1, 0, span(3, 4)))
	sends(t, s, 70, all[5]) // all is told: the last one alone
	sends(t, s, 80, all[5])
	ignores(t, s, report(3, 1, 0, span(0, 64)))
	sends(t, s, 90, all[5])
	hears(t, s, report(3, 1, api.Stored), key(0, 1))
	loses(t, s, 1000)
}

// TestToldOfEach: of blocks of each number of segments, each single one told, and all but it.
func TestToldOfEach(t *testing.T) {
	for _, count := range []int{1, 2, 3, 17, 63, 64} {
		block := text(16*count - 3)
		all := unitsOf(3, 1, block, 16)
		for told := range count {
			s := fresh(t, config(), 3, 0)
			queues(t, s, key(0, 1), block)
			runs(t, s, 1, 0, 1, all...)
			ignores(t, s, report(3, 1, 0, span(told, told+1)))
			want := slices.Concat(all[:told], all[told+1:])
			if count == 1 {
				want = all
			}
			sends(t, s, 10, want...)

			s = fresh(t, config(), 3, 0)
			queues(t, s, key(0, 1), block)
			runs(t, s, 1, 0, 1, all...)
			if told > 0 {
				ignores(t, s, report(3, 1, 0, span(0, told)))
			}
			if told+1 < count {
				ignores(t, s, report(3, 1, 0, span(told+1, count)))
			}
			sends(t, s, 10, all[told])
		}
	}
}

// TestReports: what is told of one session, or of one that was, is told of no other one.
func TestReports(t *testing.T) {
	block := text(40)
	s := fresh(t, with(1, 2), 3, 0)
	queues(t, s, key(0, 1), block)
	queues(t, s, key(0, 2), block)
	one, two := unitsOf(3, 1, block, 16), unitsOf(3, 2, block, 16)
	runs(t, s, 1, 0, 2, slices.Concat(one, two)...)
	ignores(t, s, report(3, 2, 0, span(0, 2)))
	sends(t, s, 10, slices.Concat(one, two[2:])...)
	stops(t, s, key(0, 2), 2, true)
	queues(t, s, key(0, 2), block)
	runs(t, s, 2, 10, 1, two...) // anew, with the same number: nothing is told
	loses(t, s, 19)
	l, lost := s.Tick(20)
	if !slices.EqualFunc(l, two, sameUnit) || !slices.Equal(lost, []api.Key{key(0, 1)}) {
		t.Fatalf("P1506: Tick = %+v, %v", l, lost)
	}
}

// TestRetries: so many times as the config says, each behind RetryTime; then it is lost.
func TestRetries(t *testing.T) {
	block := text(30)
	for _, retries := range []int{0, 1, 2, 15, 16} {
		for _, retry := range []uint64{1, 2, 63, 64, 4095, 4096} {
			for _, from := range []uint64{0, 1, 63, 4095, 1 << 24, 1<<36 - 1} {
				c := with(retries, 1)
				c.RetryTime = retry
				s := fresh(t, c, 3, 0)
				queues(t, s, key(1, 1), block)
				all := unitsOf(3, 1, block, 16)
				runs(t, s, 1, from, 1, all...)
				at := from
				for range retries {
					at += retry
					sends(t, s, at-1)
					sends(t, s, at, all...)
					sends(t, s, at)
				}
				at += retry
				loses(t, s, at-1)
				busy(t, s, key(1, 1))
				loses(t, s, at, key(1, 1))
				busy(t, s)
				loses(t, s, at+retry)
			}
		}
	}
}

// TestOnceInATick: however far the clock goes on, and the next tick counts from where it came to.
func TestOnceInATick(t *testing.T) {
	one := []byte{1}
	u := unitsOf(3, 1, one, 16)
	s := fresh(t, with(2, 1), 3, 0)
	queues(t, s, key(0, 1), one)
	runs(t, s, 1, 0, 1, u...)
	sends(t, s, 1<<40, u...)
	sends(t, s, 0)
	sends(t, s, 1<<40+9)
	sends(t, s, 1<<40+17, u...)
	sends(t, s, 1<<40+26)
	loses(t, s, 1<<41, key(0, 1))
}

// TestTickAtTheEnd: where the time comes to its end each Tick goes through each session.
func TestTickAtTheEnd(t *testing.T) {
	one := []byte{1}
	u, v := unitsOf(3, 1, one, 16), unitsOf(3, 2, one, 16)
	for _, last := range []uint64{api.MaxNumber, api.MaxNumber + 1, math.MaxUint64} {
		s := fresh(t, with(2, 2), 3, api.MaxNumber-12)
		queues(t, s, key(0, 1), one)
		runs(t, s, 1, 0, 1, u...)
		sends(t, s, api.MaxNumber-3)
		sends(t, s, api.MaxNumber-2, u...) // its next tick is MaxNumber
		queues(t, s, key(0, 2), one)
		runs(t, s, 2, 0, 1, v...)
		sends(t, s, api.MaxNumber-1)
		sends(t, s, last, slices.Concat(u, v)...)
		l, lost := s.Tick(0)
		if !slices.EqualFunc(l, v, sameUnit) || !slices.Equal(lost, []api.Key{key(0, 1)}) {
			t.Fatalf("P1506: Tick = %+v, %v", l, lost)
		}
		queues(t, s, key(0, 1), one)
		runs(t, s, 3, last, 1, unitsOf(3, 3, one, 16)...)
		l, lost = s.Tick(last)
		if !slices.EqualFunc(l, unitsOf(3, 3, one, 16), sameUnit) || !slices.Equal(lost, []api.Key{key(0, 2)}) {
			t.Fatalf("P1506: Tick = %+v, %v", l, lost)
		}
		sends(t, s, last, unitsOf(3, 3, one, 16)...)
		hears(t, s, report(3, 3, api.Stored), key(0, 1))
		loses(t, s, last)
	}
}

// TestOrderOfTicks: by when they began, also where their ticks come in another order.
func TestOrderOfTicks(t *testing.T) {
	one := []byte{1}
	s := fresh(t, with(3, 3), 3, 0)
	var u [4][]api.Unit
	for i := range u {
		u[i] = unitsOf(3, uint64(i), one, 16)
	}
	queues(t, s, key(0, 9), one)
	runs(t, s, 1, 0, 1, u[1]...)
	queues(t, s, key(0, 8), one)
	runs(t, s, 2, 5, 1, u[2]...)
	queues(t, s, key(0, 7), one)
	runs(t, s, 3, 7, 1, u[3]...)
	sends(t, s, 11, u[1]...) // next at 21, the others at 15 and 17
	sends(t, s, 25, slices.Concat(u[1], u[2], u[3])...)
	sends(t, s, 34)
	stops(t, s, key(0, 9), 1, true)
	sends(t, s, 35, slices.Concat(u[2], u[3])...)
	busy(t, s, key(0, 8), key(0, 7))
}

// TestSentAndLost: one Tick may do both, of different sessions.
func TestSentAndLost(t *testing.T) {
	one := []byte{1}
	s := fresh(t, with(1, 4), 3, 0)
	var u [5][]api.Unit
	for i := range u {
		u[i] = unitsOf(3, uint64(i), one, 16)
	}
	queues(t, s, key(0, 1), one)
	queues(t, s, key(0, 2), one)
	runs(t, s, 1, 0, 2, slices.Concat(u[1], u[2])...)
	sends(t, s, 10, slices.Concat(u[1], u[2])...)
	queues(t, s, key(0, 3), one)
	queues(t, s, key(0, 4), one)
	runs(t, s, 3, 10, 2, slices.Concat(u[3], u[4])...)
	l, lost := s.Tick(20)
	if !slices.EqualFunc(l, slices.Concat(u[3], u[4]), sameUnit) || !slices.Equal(lost, []api.Key{key(0, 1), key(0, 2)}) {
		t.Fatalf("P1506: Tick = %+v, %v", l, lost)
	}
	loses(t, s, 30, key(0, 3), key(0, 4))
}

// TestStop: keys that wait, that are under way, that were, that never can be.
func TestStop(t *testing.T) {
	one := []byte{1}
	s := fresh(t, with(1, 2), 3, 100)
	var keys []api.Key
	for n := range uint64(6) {
		k := key(int(n%2), 5+n/2)
		queues(t, s, k, one)
		keys = append(keys, k)
	}
	runs(t, s, 10, 100, 2, slices.Concat(unitsOf(3, 10, one, 16), unitsOf(3, 11, one, 16))...)
	for _, k := range []api.Key{{}, key(2, 5), key(0, 4), key(0, 8), key(-1, 5), key(8, 5), key(math.MinInt, 5), key(0, math.MaxUint64), key(0, 5+1<<48)} {
		stops(t, s, k, 0, false)
	}
	busy(t, s, keys[:2]...)
	waiting(t, s, keys[2:]...)
	stops(t, s, keys[4], 0, true)
	stops(t, s, keys[4], 0, false)
	waiting(t, s, keys[2], keys[3], keys[5])
	stops(t, s, keys[0], 10, true)
	stops(t, s, keys[0], 0, false)
	ignores(t, s, report(3, 10, api.Stored))
	busy(t, s, keys[1])
	queues(t, s, keys[4], one)
	queues(t, s, keys[0], one)
	stops(t, s, keys[2], 0, true)
	waiting(t, s, keys[3], keys[5], keys[4], keys[0])
	runs(t, s, 12, 100, 1, unitsOf(3, 12, one, 16)...)
	busy(t, s, keys[1], keys[3])
	stops(t, s, keys[0], 0, true)
	waiting(t, s, keys[5], keys[4])
	sends(t, s, 110, slices.Concat(unitsOf(3, 11, one, 16), unitsOf(3, 12, one, 16))...)
}

// TestTwoSenders: what is done to one is nothing to the other.
func TestTwoSenders(t *testing.T) {
	one := []byte{1}
	a, b := fresh(t, config(), 3, 100), fresh(t, config(), 4, 100)
	queues(t, a, key(0, 1), one)
	waiting(t, b)
	queues(t, b, key(0, 1), one)
	runs(t, a, 1, 100, 1, unitsOf(3, 1, one, 16)...)
	runs(t, b, 1, 200, 1, unitsOf(4, 1, one, 16)...)
	ignores(t, a, report(4, 1, api.Stored))
	hears(t, b, report(4, 1, api.Stored), key(0, 1))
	busy(t, b)
	sends(t, a, 109)
	sends(t, a, 110, unitsOf(3, 1, one, 16)...)
}
