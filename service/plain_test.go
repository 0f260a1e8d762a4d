package service_test

import (
	"bytes"
	"slices"
	"testing"

	"halyard/api"
	"halyard/bundle"
	"halyard/inbox"
	"halyard/pdu"
	"halyard/service"
)

// plain: a service as the chapters say it, in lists alone that are gone through from the front; its table has room for all.
type plain struct {
	t                                  *testing.T
	config                             api.Config
	self, peer                         uint64
	epoch, clock, next                 uint64
	sends                              [api.MaxStreams]plainSends
	backlog                            []*plainFrame // in the order in which they came
	express, freight, waiting, resting []*plainFrame
	hears                              [api.MaxStreams]plainHears
	began                              uint64          // for tests: a time to come back to
	heard                              uint64          // the inbox's epoch
	open, decided                      []*plainSession // the one that was touched last at the end
}

// plainSends: a stream of a sender.
type plainSends struct {
	open   bool
	next   uint64
	newest api.Stamp
}

// plainHears: a stream of a receiver.
type plainHears struct {
	heard       bool
	quota       api.Quota
	frames      []api.Frame
	high, floor *api.Stamp
}

type plainFrame struct {
	api.Frame
	block []byte
	had   []uint64 // its sessions
	told  []bool   // of its freight session: which segments
	again int
	tick  uint64
}

type plainSession struct {
	number   uint64
	segments [][]byte
	code     int
}

func newPlain(t *testing.T, c api.Config, self, peer, now uint64) *plain {
	return &plain{t: t, config: c, self: self, peer: peer, epoch: 2, clock: min(now, top), next: 1}
}

// anew: the next life: what lies in the table is as it was, all else is new.
func (p *plain) anew(now uint64) (x service.Effect) {
	p.epoch, p.clock, p.next = p.epoch+1, min(now, top), 1
	p.express, p.freight, p.waiting, p.resting = nil, nil, nil, nil
	p.heard, p.open, p.decided = 0, nil, nil
	for i, f := range p.backlog {
		p.backlog[i] = &plainFrame{Frame: f.Frame, block: blockOf(p.t, f.Frame, p.self, p.peer, false)}
		p.waiting = append(p.waiting, p.backlog[i])
	}
	x.Units = p.run()
	return x
}

func (p *plain) goOn(now uint64) { p.clock = max(p.clock, min(now, top)) }

func (p *plain) behind(ticks uint64) uint64 { return min(p.clock+ticks, top) }

func (p *plain) isOver(f api.Frame) bool { return f.Stamp.Time+f.Life <= p.clock }

func (f *plainFrame) key() api.Key { return key(f.Stream, f.Stamp.Seq) }

// starts: a session of a frame begins: its units.
func (p *plain) starts(f *plainFrame, path int, time uint64) []api.Unit {
	units := unitsOf(p.epoch, p.next, path, f.block, p.config.Mtu)
	f.had = append(f.had, p.next)
	f.told, f.again, f.tick = make([]bool, len(units)), 0, p.behind(time)
	p.next++
	return units
}

func (p *plain) run() (l []api.Unit) {
	for len(p.waiting) > 0 && len(p.freight) < p.config.Window {
		f := p.waiting[0]
		p.waiting, p.freight = p.waiting[1:], append(p.freight, f)
		l = append(l, p.starts(f, api.Freight, p.config.RetryTime)...)
	}
	return l
}

func (p *plain) refuses(stream int, time, life uint64, data []byte) api.Errno {
	switch {
	case stream < 0 || stream > 7 || time > top || life > top:
		return api.ErrArg
	case !p.sends[stream].open:
		return api.ErrStream
	case len(data) > 512:
		return api.ErrSize
	case time+life <= p.clock:
		return api.ErrExpired
	case len(p.backlog) == 64:
		return api.ErrFull
	}
	return api.OK
}

func (p *plain) send(stream int, time, life uint64, data []byte, now uint64) (k api.Key, x service.Effect, e api.Errno) {
	p.goOn(now)
	if e := p.refuses(stream, time, life, data); e != api.OK {
		return k, x, e
	}
	s := &p.sends[stream]
	f := &plainFrame{Frame: frame(stream, time, s.next, life, string(data))}
	newest := s.next == 0 || s.newest.Less(f.Stamp)
	s.next++
	f.block = blockOf(p.t, f.Frame, p.self, p.peer, newest)
	p.backlog = append(p.backlog, f)
	if newest {
		s.newest = f.Stamp
		p.express = append(p.express, f)
		x.Units = p.starts(f, api.Express, p.config.AckTime)
	} else {
		p.waiting = append(p.waiting, f)
		x.Units = p.run()
	}
	return f.key(), x, api.OK
}

func (p *plain) places() []*[]*plainFrame {
	return []*[]*plainFrame{&p.express, &p.freight, &p.waiting, &p.resting}
}

// leaves: a frame is in none of the four places.
func (p *plain) leaves(f *plainFrame) {
	for _, l := range p.places() {
		*l = slices.DeleteFunc(slices.Clone(*l), func(g *plainFrame) bool { return f == g })
	}
}

// ends: nor is it in the backlog.
func (p *plain) ends(f *plainFrame) {
	p.leaves(f)
	p.backlog = slices.DeleteFunc(slices.Clone(p.backlog), func(g *plainFrame) bool { return f == g })
}

func (p *plain) givesUp(f *plainFrame, code int, x *service.Effect) {
	p.ends(f)
	if n := len(f.had); n > 0 {
		x.Units = append(x.Units, cancel(p.epoch, f.had[n-1]))
	}
	x.Units = append(x.Units, p.run()...)
	x.Done = append(x.Done, api.Done{Key: f.key(), Code: code})
}

func (p *plain) cancel(k api.Key, now uint64) (x service.Effect, e api.Errno) {
	p.goOn(now)
	for _, f := range p.backlog {
		if f.key() == k {
			p.givesUp(f, api.Cancelled, &x)
			return x, api.OK
		}
	}
	return x, api.ErrNone
}

func (p *plain) kick(now uint64) (x service.Effect, e api.Errno) {
	p.goOn(now)
	p.waiting = append(p.waiting, p.resting...)
	p.resting = nil
	x.Units = p.run()
	return x, api.OK
}

func (p *plain) tick(now uint64) (x service.Effect, e api.Errno) {
	p.goOn(now)
	for _, f := range slices.Clone(p.backlog) {
		if p.isOver(f.Frame) {
			p.givesUp(f, api.Expired, &x)
		}
	}
	for i := range p.hears {
		h := &p.hears[i]
		h.frames = slices.DeleteFunc(slices.Clone(h.frames), p.isOver)
	}
	for _, f := range slices.Clone(p.express) {
		if f.tick <= p.clock {
			p.leaves(f)
			p.waiting = append(p.waiting, f)
		}
	}
	for _, f := range slices.Clone(p.freight) {
		switch {
		case f.tick > p.clock:
		case f.again == p.config.Retries:
			p.leaves(f)
			p.resting = append(p.resting, f)
			x.Rest = append(x.Rest, f.key())
		default:
			x.Units = append(x.Units, p.again(f)...)
		}
	}
	x.Units = append(x.Units, p.run()...)
	return x, api.OK
}

// again: the units of what a frame under way is missing.
func (p *plain) again(f *plainFrame) (l []api.Unit) {
	all := unitsOf(p.epoch, f.had[len(f.had)-1], api.Freight, f.block, p.config.Mtu)
	for i, u := range all {
		if !f.told[i] {
			l = append(l, u)
		}
	}
	if len(l) == 0 {
		l = all[len(all)-1:]
	}
	f.again++
	f.tick = p.behind(p.config.RetryTime)
	return l
}

func (p *plain) hear(b []byte, now uint64) (x service.Effect, e api.Errno) {
	p.goOn(now)
	u, e := pdu.Decode(b)
	if e != api.OK {
		return x, e
	}
	switch u.Kind {
	case api.Report:
		p.hearReport(u, &x)
	case api.Cancel:
		if u.Epoch == p.heard {
			p.open = slices.DeleteFunc(p.open, func(s *plainSession) bool { return s.number == u.Session })
		}
	case api.Data:
		p.hearData(u, &x)
	}
	return x, api.OK
}

func (p *plain) hearReport(u api.Unit, x *service.Effect) {
	for _, f := range p.backlog {
		at := slices.Index(f.had, u.Session)
		switch {
		case u.Epoch != p.epoch || at < 0:
		case u.Code != 0:
			p.ends(f)
			x.Units = p.run()
			x.Done = []api.Done{{Key: f.key(), Code: u.Code}}
			return
		case slices.Contains(p.freight, f) && at == len(f.had)-1:
			for i := range f.told {
				f.told[i] = f.told[i] || pdu.Has(u.Got, i)
			}
		}
	}
}

// touch: of the sessions that one with that number goes to the end; it is made, if it was not there.
func touch(l *[]*plainSession, s *plainSession) {
	*l = append(slices.DeleteFunc(*l, func(o *plainSession) bool { return o == s }), s)
}

func find(l []*plainSession, number uint64) *plainSession {
	for _, s := range l {
		if s.number == number {
			return s
		}
	}
	return nil
}

func (p *plain) hearData(u api.Unit, x *service.Effect) {
	if u.Epoch < p.heard {
		return
	}
	if u.Epoch > p.heard {
		p.heard, p.open, p.decided = u.Epoch, nil, nil
	}
	if s := find(p.decided, u.Session); s != nil {
		touch(&p.decided, s)
		x.Units = []api.Unit{report(u.Epoch, u.Session, s.code)}
		return
	}
	s := find(p.open, u.Session)
	isNew := s == nil
	if isNew {
		s = &plainSession{number: u.Session, segments: make([][]byte, u.Count)}
	}
	if !s.takes(u) {
		return
	}
	if isNew && len(p.open) == p.config.Inbox {
		p.open = p.open[1:]
	}
	touch(&p.open, s)
	if slices.ContainsFunc(s.segments, func(b []byte) bool { return b == nil }) {
		if u.Path == api.Freight {
			x.Units = []api.Unit{report(u.Epoch, u.Session, 0, s.got()...)}
		}
		return
	}
	s.code = p.judge(u.Path, bytes.Join(s.segments, nil), x)
	p.open = slices.DeleteFunc(p.open, func(o *plainSession) bool { return o == s })
	touch(&p.decided, s)
	if len(p.decided) > 256 {
		p.decided = p.decided[1:]
	}
	x.Units = []api.Unit{report(u.Epoch, u.Session, s.code)}
}

// takes: a unit's segment, if it goes with the others.
func (s *plainSession) takes(u api.Unit) bool {
	if len(s.segments) != u.Count {
		return false
	}
	if had := s.segments[u.Index]; had != nil {
		return bytes.Equal(had, u.Data)
	}
	all := slices.Clone(s.segments)
	all[u.Index] = u.Data
	length, last := 0, len(all[len(all)-1])
	for _, b := range all[:len(all)-1] {
		if b != nil && length != 0 && len(b) != length {
			return false
		}
		length = max(length, len(b))
	}
	least := (len(all)-1)*length + max(last, 1)
	if length == 0 {
		least = len(all) * last
	}
	if length != 0 && last > length || least > api.MaxBlock {
		return false
	}
	s.segments = all
	return true
}

func (s *plainSession) got() (l []api.Range) {
	for i, b := range s.segments {
		if b != nil {
			l = pdu.Add(l, i)
		}
	}
	return l
}

// judge: what becomes of a block.
func (p *plain) judge(path int, block []byte, x *service.Effect) int {
	b, e := bundle.Decode(block)
	if e != api.OK {
		return api.Unheard
	}
	f, from, newest, e := bundle.Open(b)
	if e != api.OK || b.Dest.Node != p.self || from != p.peer {
		return api.Unheard
	}
	h := &p.hears[f.Stream]
	switch {
	case !h.heard:
		return api.Unheard
	case len(f.Data) > h.quota.Bytes:
		return api.TooGreat
	case p.isOver(f):
		return api.TooLate
	case h.floor != nil && !h.floor.Less(f.Stamp):
		return api.TooOld
	case slices.ContainsFunc(h.frames, func(g api.Frame) bool { return g.Stamp == f.Stamp }):
		return api.Stored
	}
	return p.stores(h, f, path == api.Express && newest, x)
}

func (p *plain) stores(h *plainHears, f api.Frame, show bool, x *service.Effect) int {
	all := append(slices.Clone(h.frames), f)
	slices.SortFunc(all, func(a, b api.Frame) int {
		if a.Stamp.Less(b.Stamp) {
			return -1
		}
		return 1
	})
	floor := h.floor
	for {
		bytes := 0
		for _, g := range all {
			bytes += len(g.Data)
		}
		if len(all) <= h.quota.Count && bytes <= h.quota.Bytes {
			break
		}
		if all[0].Stamp == f.Stamp {
			return api.TooOld
		}
		floor = &all[0].Stamp
		all = all[1:]
	}
	h.frames, h.floor = all, floor
	if show && (h.high == nil || h.high.Less(f.Stamp)) {
		h.high = &f.Stamp
		x.Shown = []api.Frame{f}
	}
	return api.Stored
}

// begin, cease, listen, unlisten: as the backlog and the database do it.
func (p *plain) begin(stream int, open bool) api.Errno {
	s := &p.sends[stream]
	switch {
	case open && s.open:
		return api.ErrTwice
	case !open && !s.open:
		return api.ErrStream
	}
	s.open = open
	return api.OK
}

func (p *plain) listen(stream int, q api.Quota) api.Errno {
	h := &p.hears[stream]
	if h.heard {
		return api.ErrTwice
	}
	h.heard, h.quota = true, q
	return api.OK
}

func (p *plain) unlisten(stream int) api.Errno {
	h := &p.hears[stream]
	if !h.heard {
		return api.ErrStream
	}
	h.heard, h.quota, h.frames = false, api.Quota{}, nil
	return api.OK
}

func keysOf(l []*plainFrame) (out []api.Key) {
	for _, f := range l {
		out = append(out, f.key())
	}
	return out
}

func (p *plain) sessions(l []*plainSession) (out []inbox.Session) {
	for _, s := range l {
		out = append(out, inbox.Session{Epoch: p.heard, Number: s.number})
	}
	return out
}
