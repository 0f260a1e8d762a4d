package service_test

import (
	"math"
	"slices"
	"testing"

	"halyard/api"
	"halyard/disk"
	"halyard/octet"
	"halyard/seglog"
	"halyard/service"
	"halyard/table"
)

// isBroken: each call answers that error, whatever it is given; the looks stay what they were.
func (r *rig) isBroken(want api.Errno) {
	r.t.Helper()
	kept, db := r.Backlog(), r.DB()
	if kept == nil || db == nil {
		r.t.Fatal("P1708: Backlog or DB is nil")
	}
	for range 2 {
		for _, stream := range []int{3, -1, 8, math.MaxInt} {
			k, x, e := r.Send(stream, 500, 50, make([]byte, 600), 300)
			if e != want || k != (api.Key{}) || !sameEffect(x, service.Effect{}) {
				r.t.Fatalf("P1701: Send of a broken one = %v, %+v, %v, want %v", k, x, e, want)
			}
		}
		for what, call := range map[string]func() (service.Effect, api.Errno){
			"Send":             func() (service.Effect, api.Errno) { _, x, e := r.Send(3, 500, 50, nil, 0); return x, e },
			"Cancel":           func() (service.Effect, api.Errno) { return r.Cancel(key(3, 0), 300) },
			"Cancel of none":   func() (service.Effect, api.Errno) { return r.Cancel(key(9, 9), 300) },
			"Kick":             func() (service.Effect, api.Errno) { return r.Kick(300) },
			"Hear":             func() (service.Effect, api.Errno) { return r.Hear(encode(r.t, report(2, 1, api.Stored)), 300) },
			"Hear of a Cancel": func() (service.Effect, api.Errno) { return r.Hear(encode(r.t, cancel(9, 1)), 300) },
			"Hear of no unit":  func() (service.Effect, api.Errno) { return r.Hear([]byte{1, 2, 3}, 300) },
			"Hear of nothing":  func() (service.Effect, api.Errno) { return r.Hear(nil, 0) },
			"Tick":             func() (service.Effect, api.Errno) { return r.Tick(300) },
			"Tick long ago":    func() (service.Effect, api.Errno) { return r.Tick(0) },
			"Tick at the end":  func() (service.Effect, api.Errno) { return r.Tick(math.MaxUint64) },
			"Kick behind that": func() (service.Effect, api.Errno) { return r.Kick(math.MaxUint64) },
			"Hear of a segment": func() (service.Effect, api.Errno) {
				return r.Hear(encode(r.t, unitsOf(9, 7, 2, []byte("x"), 16)[0]), 300)
			},
		} {
			if x, e := call(); e != want || !sameEffect(x, service.Effect{}) {
				r.t.Fatalf("P1701: %s of a broken one = %+v, %v, want %v", what, x, e, want)
			}
		}
		r.State()
	}
	if r.Backlog() != kept || r.DB() != db {
		r.t.Fatal("P1708: Backlog, DB are others than before")
	}
}

// story: what happens to a service: some calls of each kind that commit something, and some that do not.
func story(t *testing.T) []func(s *service.Service) (service.Effect, api.Errno) {
	type call = func(s *service.Service) (service.Effect, api.Errno)
	send := func(time, life uint64, now uint64) call {
		return func(s *service.Service) (service.Effect, api.Errno) {
			k, x, e := s.Send(3, time, life, []byte("some data of a frame"), now)
			if e != api.OK && k != (api.Key{}) {
				t.Fatalf("P1701: beside an error the key is %v", k)
			}
			return x, e
		}
	}
	hear := func(u api.Unit, now uint64) call {
		b := encode(t, u)
		return func(s *service.Service) (service.Effect, api.Errno) { return s.Hear(b, now) }
	}
	their := func(number, time uint64, path int, size int) call {
		return hear(unitsOf(9, number, path, blockOf(t, frame(5, time, number, 50, string(make([]byte, size))), 2, 1, true), 1024)[0], 100)
	}
	return []call{
		send(200, 100, 100), send(100, 30, 100), send(99, 31, 100), send(98, 500, 100),
		their(1, 100, api.Express, 100), their(2, 101, api.Express, 100), their(2, 101, api.Express, 100), their(3, 102, api.Freight, 400),
		hear(report(2, 1, api.Stored), 101), hear(report(2, 1, api.Stored), 101), hear(report(2, 2, 0), 101), hear(cancel(9, 2), 101),
		func(s *service.Service) (service.Effect, api.Errno) { return s.Kick(102) },
		func(s *service.Service) (service.Effect, api.Errno) { return s.Tick(110) },
		func(s *service.Service) (service.Effect, api.Errno) { return s.Tick(130) }, // two lives are over
		send(300, 100, 131),
		func(s *service.Service) (service.Effect, api.Errno) { return s.Cancel(key(3, 3), 132) },
		func(s *service.Service) (service.Effect, api.Errno) { return s.Tick(160) }, // theirs are over
		send(301, 100, 161),
	}
}

func telling(t *testing.T) *rig {
	c := config()
	c.Mtu = 1024
	r := fresh(t, c, 1, 2, 100)
	r.begins(3)
	r.listens(5, 3, 500)
	if e := r.tb.Flush(); e != api.OK {
		t.Fatalf("P6.4: Flush = %v", e)
	}
	return r
}

// isBetween: what is found is a first part of the way from the one state to the other one: what both have is there, what neither has isn't.
func isBetween[T any](found, before, behind []T, same func(a, b T) bool) bool {
	in := func(l []T, x T) bool { return slices.ContainsFunc(l, func(y T) bool { return same(x, y) }) }
	for _, x := range found {
		if !in(before, x) && !in(behind, x) {
			return false
		}
	}
	for _, x := range before {
		if in(behind, x) && !in(found, x) {
			return false
		}
	}
	return true
}

func (r *rig) frames() []api.Frame { return slices.Collect(r.DB().Frames(5)) }

// TestBroken: the power fails ahead of each operation on the disk, in whichever call: that one and all behind it answer ErrPower, and no effect; what lasts is what was told, and perhaps a part of what that call did.
func TestBroken(t *testing.T) {
	calls := story(t)
	fallen := map[int]bool{}
	for fuse := 0; ; fuse++ {
		r, twin := telling(t), telling(t)
		r.d.Cut(fuse)
		at := 0
		var kept []api.Key
		var had []api.Frame
		for ; at < len(calls); at++ {
			kept, had = r.Backlog().Keys(), r.frames()
			want, _ := calls[at](twin.Service)
			got, e := calls[at](r.Service)
			if e == api.ErrPower {
				if !sameEffect(got, service.Effect{}) {
					t.Fatalf("P1701: beside an error: %+v", got)
				}
				fallen[at] = true
				break
			}
			if e != api.OK || !sameEffect(got, want) {
				t.Fatalf("P1701: call %d with a fuse of %d = %+v, %v, want %+v", at, fuse, got, e, want)
			}
			if e := r.tb.Flush(); e != api.OK { // whoever calls sees to it that it lasts
				break
			}
		}
		if at == len(calls) {
			break
		}
		r.isBroken(api.ErrPower)
		r.d.Crash([]int{1, 1, 1, 1, 1, 1}[:fuse%4])
		tb, e := table.Open(r.d, 0, r.d.Sectors())
		if e != api.OK {
			t.Fatalf("P6.9: Open = %v", e)
		}
		s, _, e := service.Open(tb, config(), 1, 2, 200)
		if e != api.OK || s.State().Epoch != 3 {
			t.Fatalf("P1702: behind a crash Open = %v, %+v", e, s.State())
		}
		next := &rig{Service: s, t: t, d: r.d, tb: tb}
		if !isBetween(s.Backlog().Keys(), kept, twin.Backlog().Keys(), func(a, b api.Key) bool { return a == b }) || !isBetween(next.frames(), had, twin.frames(), sameFrame) {
			t.Fatalf("P4: behind call %d and a fuse of %d there are %v and %v", at, fuse, s.Backlog().Keys(), next.frames())
		}
		x := s.State()
		if all := slices.Concat(x.Freight, x.Waiting); !slices.Equal(all, s.Backlog().Keys()) {
			t.Fatalf("P1709: the engine holds %v, the backlog %v", all, s.Backlog().Keys())
		}
	}
	for _, at := range []int{0, 1, 4, 5, 7, 8, 14, 16, 17} { // those that commit something
		if !fallen[at] {
			t.Errorf("no fuse has broken call %d", at)
		}
	}
}

// TestBrokenInTheMidst: a call of several commits, of which the first ones went through.
func TestBrokenInTheMidst(t *testing.T) {
	for fuse := range 3 {
		r := telling(t)
		for range 3 {
			r.Send(3, 100, 50, nil, 100)
		}
		r.d.Cut(fuse)
		if x, e := r.Tick(150); e != api.ErrPower || !sameEffect(x, service.Effect{}) {
			t.Errorf("P1707: Tick with a fuse of %d = %+v, %v", fuse, x, e)
		}
		if n := len(r.Backlog().Keys()); n != 3-fuse {
			t.Errorf("P1707: behind %d commits %d are in the backlog", fuse, n)
		}
		r.isBroken(api.ErrPower)
	}
}

// TestBrokenFromOutside: the table fell, or its power went, by somebody else: the next call says so.
func TestBrokenFromOutside(t *testing.T) {
	for i, breaks := range []func(r *rig){
		func(r *rig) { r.tb.Flush() },
		func(r *rig) { r.DB().Listen(6, api.Quota{Count: 1, Bytes: 1}) },
		func(r *rig) { r.DB().Unlisten(5) },
		func(r *rig) { r.Backlog().Begin(6) },
		func(r *rig) { r.Backlog().Cease(3) },
		func(r *rig) { r.d.Flush() },
		func(r *rig) { r.d.Write(0, make([]byte, api.SectorSize)) },
	} {
		r := telling(t)
		f := frame(3, 200, 0, 50, "abc")
		r.sends(f, 100, unitsOf(2, 1, api.Express, blockOf(t, f, 1, 2, true), 1024)[0])
		r.d.Cut(0)
		r.kicks(101)                   // a fuse alone breaks nothing,
		r.ticks(101, service.Effect{}) // where nothing is committed
		r.sendsNot(9, 0, 0, 0, 102, api.ErrArg)
		r.goesTo(102)
		if r.d.Down() {
			t.Fatalf("%d: the power is gone", i)
		}
		breaks(r)
		r.isBroken(api.ErrPower)
		r.d.Crash(nil) // what has fallen does not get up
		r.isBroken(api.ErrPower)
	}
}

// nearTheEnd: a table on a log in which so many pieces have numbers yet.
func nearTheEnd(t *testing.T, pieces uint64) (*disk.Disk, *table.Table) {
	t.Helper()
	const size = 100
	d, _ := disk.New(size)
	head := []byte{0x68, 0x6c, 0x79, 0x48}
	number := func(n uint64, bytes int) {
		for i := range bytes {
			head = append(head, byte(n>>(8*i)))
		}
	}
	number(2, 6)          // the generation: it lies in slot 0
	number(1, 6)          // the epoch
	number(top-pieces, 6) // the first number: of the piece with the table's checkpoint
	number(0, 6)
	number(size, 4)
	d.Write(0, octet.Seal(append(head, make([]byte, 92)...)))
	d.Flush()
	l, e := seglog.Open(d, 0, size)
	if e != api.OK {
		t.Fatalf("P5.3: Open = %v", e)
	}
	if _, e := l.Append([]byte{2, 0, 1}); e != api.OK || l.Flush() != api.OK {
		t.Fatalf("P5.4: Append = %v", e)
	}
	tb, e := table.Open(d, 0, size)
	if e != api.OK {
		t.Fatalf("P6.2: Open = %v", e)
	}
	return d, tb
}

// TestBrokenWithoutNumbers: a table can fall with another error than that of the power: that one is answered.
func TestBrokenWithoutNumbers(t *testing.T) {
	theirs := frame(5, 100, 1, 50, "theirs")
	block := blockOf(t, theirs, 2, 1, true)
	for what, breaks := range map[string]func(s *service.Service) (service.Effect, api.Errno){
		"Send": func(s *service.Service) (service.Effect, api.Errno) {
			_, x, e := s.Send(3, 200, 50, nil, 100)
			return x, e
		},
		"Cancel": func(s *service.Service) (service.Effect, api.Errno) { return s.Cancel(key(3, 0), 100) },
		"Report": func(s *service.Service) (service.Effect, api.Errno) {
			return s.Hear(encode(t, report(3, 1, api.Stored)), 100)
		},
		"Data": func(s *service.Service) (service.Effect, api.Errno) {
			return s.Hear(encode(t, unitsOf(9, 1, api.Express, block, 64)[0]), 100)
		},
		"Tick": func(s *service.Service) (service.Effect, api.Errno) { return s.Tick(300) },
	} {
		d, tb := nearTheEnd(t, 3)
		s, _, e := service.Open(tb, config(), 1, 2, 100)
		if e != api.OK {
			t.Fatalf("P1702: Open = %v", e)
		}
		r := &rig{Service: s, t: t, d: d, tb: tb}
		r.begins(3)
		r.listens(5, 3, 500)
		if k, _, e := r.Send(3, 200, 50, nil, 100); e != api.OK || k != key(3, 0) {
			t.Fatalf("P1703: Send = %v, %v", k, e)
		}
		if x, e := breaks(s); e != api.ErrEnd || !sameEffect(x, service.Effect{}) {
			t.Errorf("P1701: %s = %+v, %v, want ErrEnd", what, x, e)
		}
		r.isBroken(api.ErrEnd)
	}
}
