package service_test

import (
	"math/rand"
	"slices"
	"testing"

	"halyard/api"
	"halyard/bundle"
	"halyard/inbox"
	"halyard/pdu"
	"halyard/service"
)

// seen: a service, and what was seen of it from outside.
type seen struct {
	*rig
	config     api.Config
	self, peer uint64
	other      *seen
	way        [][]byte // what it has sent
	took       map[api.Key]api.Frame
	over       map[api.Key]int // by what it was told, once
	shown      [api.MaxStreams][]api.Stamp
	codes      map[inbox.Session]int // what it reported in this life
}

func see(t *testing.T, c api.Config, self, peer, now uint64) *seen {
	s := &seen{rig: fresh(t, c, self, peer, now), config: c, self: self, peer: peer}
	s.took, s.over, s.codes = map[api.Key]api.Frame{}, map[api.Key]int{}, map[inbox.Session]int{}
	for stream := range 3 {
		s.begins(stream)
	}
	return s
}

func twoSeen(t *testing.T, c api.Config, now uint64) [2]*seen {
	one, two := see(t, c, 1, 2, now), see(t, c, 2, 1, now)
	one.other, two.other = two, one
	return [2]*seen{one, two}
}

// tells: an effect, and what must hold of it and behind it.
func (s *seen) tells(x service.Effect, e api.Errno) {
	s.t.Helper()
	if e != api.OK {
		s.t.Fatalf("P1706: %v", e)
	}
	for _, u := range x.Units {
		s.way = append(s.way, encode(s.t, u))
	}
	for _, d := range x.Done {
		if _, took := s.took[d.Key]; !took || s.over[d.Key] != 0 || d.Code < api.Stored || d.Code > api.Cancelled {
			s.t.Fatalf("P1709: of %v it is told %d, and was told %d", d.Key, d.Code, s.over[d.Key])
		}
		s.over[d.Key] = d.Code
	}
	s.inPlaces()
	for _, k := range x.Rest {
		if !slices.Contains(s.State().Resting, k) {
			s.t.Fatalf("P1707: %v is told to rest, and does not", k)
		}
	}
}

// inPlaces: the engine holds just the frames of the backlog, each in one place; these are the frames that were taken and of which nothing was told.
func (s *seen) inPlaces() {
	s.t.Helper()
	x, kept := s.State(), s.Backlog().Keys()
	all := slices.Concat(x.Express, x.Freight, x.Waiting, x.Resting)
	if len(all) != len(kept) || len(kept) != len(s.took)-len(s.over) {
		s.t.Fatalf("P1709: %d are in places, %d in the backlog; %d were taken, %d are over", len(all), len(kept), len(s.took), len(s.over))
	}
	for _, k := range kept {
		if _, took := s.took[k]; !took || s.over[k] != 0 || !slices.Contains(all, k) {
			s.t.Fatalf("P1709: %v is in the backlog; it was told %d; in places are %v", k, s.over[k], all)
		}
	}
}

func (s *seen) sends(stream int, time, life uint64, data []byte, now uint64) {
	s.t.Helper()
	k, x, e := s.Send(stream, time, life, data, now)
	if e != api.OK {
		s.inPlaces()
		return
	}
	s.took[k] = frame(stream, time, k.Seq, life, string(data))
	s.tells(x, e)
}

// hears: a datagram of the other one; what it is about is what the other one has taken.
func (s *seen) hears(b []byte, now uint64) {
	s.t.Helper()
	u, _ := pdu.Decode(b)
	before := s.frames()
	x, e := s.Hear(b, now)
	s.tells(x, e)
	behind := s.frames()
	for _, f := range x.Shown {
		if high, _ := s.DB().High(f.Stream); high != f.Stamp {
			s.t.Fatalf("P1709: %v is shown, and the high-water mark is %v", f, high)
		}
		if isIn(before, f) || !isIn(behind, f) || !sameFrame(s.other.took[key(f.Stream, f.Stamp.Seq)], f) {
			s.t.Fatalf("P1709: %v is shown, and not stored by this call", f)
		}
		l := s.shown[f.Stream]
		if len(l) > 0 && !l[len(l)-1].Less(f.Stamp) {
			s.t.Fatalf("P2: behind %v %v is shown", l, f.Stamp)
		}
		s.shown[f.Stream] = append(l, f.Stamp)
	}
	for _, f := range behind {
		if !sameFrame(s.other.took[key(f.Stream, f.Stamp.Seq)], f) {
			s.t.Fatalf("P3: %v is stored, and was not sent", f)
		}
	}
	s.reports(u, x)
}

// reports: what is answered to a unit of data is of its session; it was judged or decided in this life, with one code; Stored is true.
func (s *seen) reports(u api.Unit, x service.Effect) {
	s.t.Helper()
	if u.Kind != api.Data || len(x.Units) == 0 {
		return
	}
	r, n := x.Units[0], inbox.Session{Epoch: u.Epoch, Number: u.Session}
	if len(x.Units) != 1 || r.Kind != api.Report || r.Epoch != u.Epoch || r.Session != u.Session {
		s.t.Fatalf("P1706: to %+v it answers %+v", u, x.Units)
	}
	if r.Code == 0 {
		if u.Path != api.Freight || len(r.Got) == 0 || s.codes[n] != 0 {
			s.t.Fatalf("P1706: to %+v it answers %+v", u, r)
		}
		return
	}
	if l := s.State().Decided; len(l) == 0 || l[len(l)-1] != n || s.codes[n] != 0 && s.codes[n] != r.Code {
		s.t.Fatalf("P1709: of %v it reports %d; decided are %v", n, r.Code, l)
	}
	s.codes[n] = r.Code
	if r.Code != api.Stored || u.Count > 1 {
		return
	}
	b, _ := bundle.Decode(u.Data)
	f, _, _, _ := bundle.Open(b)
	floor, rolls := s.DB().Floor(f.Stream)
	if !isIn(s.frames(), f) && !f.Over(s.State().Now) && !(rolls && !floor.Less(f.Stamp)) {
		s.t.Fatalf("P1709: Stored is reported of %v, which isn't there", f)
	}
}

func isIn(l []api.Frame, f api.Frame) bool {
	return slices.ContainsFunc(l, func(g api.Frame) bool { return sameFrame(f, g) })
}

func (s *seen) frames() (all []api.Frame) {
	for stream := range api.MaxStreams {
		all = slices.AppendSeq(all, s.DB().Frames(stream))
	}
	return all
}

func (s *seen) lives(now uint64) {
	s.t.Helper()
	clear(s.codes)
	s.tells(s.anew(s.config, s.self, s.peer, now), api.OK)
}

func someConfig(r *rand.Rand) api.Config {
	c := api.Config{Mtu: 16 + r.Intn(1+r.Intn(200)), AckTime: 1 + uint64(r.Intn(20)), RetryTime: 1 + uint64(r.Intn(20)), Retries: r.Intn(4), Window: 1 + r.Intn(8)}
	c.Inbox = c.Window + r.Intn(33-c.Window)
	return c
}

// TestHolds: whatever comes, is lost, comes twice or late, through all lives.
func TestHolds(t *testing.T) {
	for seed := range int64(150) {
		r := rand.New(rand.NewSource(seed))
		now := uint64(r.Intn(1000))
		l := twoSeen(t, someConfig(r), now)
		for _, s := range l {
			for stream := range 2 {
				s.listens(stream, 1+r.Intn(20), 1+r.Intn(900))
			}
		}
		for range 400 {
			s := l[r.Intn(2)]
			now += uint64(r.Intn(3))
			switch n := r.Intn(100); {
			case n < 25:
				s.sends(r.Intn(4), now+uint64(r.Intn(10)), uint64(r.Intn(60)), make([]byte, r.Intn(1+r.Intn(200))), now)
			case n < 30:
				if k := s.Backlog().Keys(); len(k) > 0 {
					s.tells(s.Cancel(k[r.Intn(len(k))], now))
				}
			case n < 35:
				s.tells(s.Kick(now))
			case n < 50:
				s.tells(s.Tick(now))
			case n < 90:
				if way := s.other.way; len(way) > 0 {
					at := r.Intn(len(way))
					b := way[at]
					if r.Intn(4) > 0 {
						s.other.way = slices.Delete(way, at, at+1)
					}
					s.hears(b, now)
				}
			case n < 98:
				s.way = s.way[min(r.Intn(3), len(s.way)):]
			default:
				s.lives(now)
			}
		}
	}
}

// TestTwoThatHearEachOther: each unit at least once, in any order, the clock standing still: all is judged, and the backlogs are empty.
func TestTwoThatHearEachOther(t *testing.T) {
	for seed := range int64(300) {
		r := rand.New(rand.NewSource(seed))
		c := someConfig(r)
		now := uint64(100)
		l := twoSeen(t, c, now)
		for _, s := range l {
			for stream := range 2 {
				s.listens(stream, api.MaxCount, api.MaxBytes)
			}
			for range r.Intn(c.Inbox + 1) {
				s.sends(r.Intn(3), now-uint64(r.Intn(10)), 11+uint64(r.Intn(40)), make([]byte, r.Intn(1+r.Intn(200))), now)
			}
			if r.Intn(4) == 0 {
				s.lives(now)
			}
		}
		now += uint64(r.Intn(30))
		for _, s := range l {
			s.tells(s.Kick(now)) // the clock goes on; no life is looked at
		}
		for len(l[0].way)+len(l[1].way) > 0 {
			s := l[r.Intn(2)]
			if len(s.way) == 0 {
				continue
			}
			at := r.Intn(len(s.way))
			b := s.way[at]
			if r.Intn(4) > 0 {
				s.way = slices.Delete(s.way, at, at+1)
			}
			s.other.hears(b, now)
		}
		for _, s := range l {
			s.judgedAll(now)
		}
	}
}

// judgedAll: all that was taken was told of, each by what it must be.
func (s *seen) judgedAll(now uint64) {
	s.t.Helper()
	if left := s.Backlog().Keys(); len(left) > 0 {
		s.t.Fatalf("P1710: %v are in the backlog still", left)
	}
	for k, f := range s.took {
		want := api.Stored
		switch {
		case k.Stream == 2:
			want = api.Unheard
		case f.Over(now):
			want = api.TooLate
		}
		if s.over[k] != want || isIn(s.other.frames(), f) != (want == api.Stored) {
			s.t.Fatalf("P1710: of %v it is told %d, want %d", f, s.over[k], want)
		}
	}
}

// TestAFairEndDrains: with ways that lose nothing and a clock that goes on, both backlogs are empty behind Retries + 8 rounds, and each frame had its Done.
func TestAFairEndDrains(t *testing.T) {
	for seed := range int64(100) {
		r := rand.New(rand.NewSource(seed))
		c := someConfig(r)
		now := uint64(100)
		l := twoSeen(t, c, now)
		for _, s := range l {
			for stream := range 2 {
				s.listens(stream, 1+r.Intn(64), 1+r.Intn(9000))
			}
		}
		for range 60 { // a while in which nearly all is lost
			s := l[r.Intn(2)]
			now += uint64(r.Intn(5))
			s.sends(r.Intn(3), now-uint64(r.Intn(10)), 11+uint64(r.Intn(400)), make([]byte, r.Intn(1+r.Intn(200))), now)
			s.tells(s.Tick(now))
			if len(s.way) > 0 && r.Intn(3) == 0 {
				s.other.hears(s.way[r.Intn(len(s.way))], now)
			}
			s.way = nil
		}
		for range c.Retries + 8 {
			for len(l[0].way)+len(l[1].way) > 0 {
				for _, s := range l {
					if len(s.way) > 0 {
						b := s.way[0]
						s.way = s.way[1:]
						s.other.hears(b, now)
					}
				}
			}
			now += max(c.AckTime, c.RetryTime)
			for _, s := range l {
				s.tells(s.Tick(now))
			}
			for _, s := range l {
				s.tells(s.Kick(now))
			}
		}
		for _, s := range l {
			if left := s.Backlog().Keys(); len(left) > 0 {
				t.Fatalf("P5: behind %d rounds %v are in a backlog", c.Retries+8, left)
			}
		}
	}
}
