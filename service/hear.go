package service

import (
	"halyard/api"
	"halyard/bundle"
	"halyard/inbox"
	"halyard/pdu"
)

// hear: a datagram: what it does hangs on the kind of its unit.
func (c *call) hear(b []byte) {
	u, e := pdu.Decode(b)
	must(e)
	does := kinds()[u.Kind]
	does(c, u)
}

// kinds: by the kind of a unit, what it does.
func kinds() [api.Cancel + 1]func(*call, api.Unit) {
	return [api.Cancel + 1]func(*call, api.Unit){
		api.Data:   (*call).hearData,
		api.Report: (*call).hearReport,
		api.Cancel: (*call).hearCancel,
	}
}

// hearReport: what became of own frames, or which of their segments are there.
func (c *call) hearReport(u api.Unit) {
	out := c.of.engine.Hear(u, c.of.clock)
	c.add(out)
	for _, d := range out.Done {
		c.end(d)
	}
}

// hearCancel: the other node has given a frame up.
func (c *call) hearCancel(u api.Unit) { c.of.inbox.Drop(sessionOf(u)) }

func sessionOf(u api.Unit) inbox.Session { return inbox.Session{Epoch: u.Epoch, Number: u.Session} }

// hearData: a segment: what it did hangs on the inbox's answer.
func (c *call) hearData(u api.Unit) {
	a := c.of.inbox.Take(u)
	answer := c.answers()[a.State]
	answer(u, a)
}

// answers: by the state that the inbox told of a segment's session, what is answered.
func (c *call) answers() [inbox.Decided + 1]func(api.Unit, inbox.Answer) {
	return [inbox.Decided + 1]func(api.Unit, inbox.Answer){
		inbox.Stale:   c.answerNothing,
		inbox.Wrong:   c.answerNothing,
		inbox.Partial: c.answerParts,
		inbox.Whole:   c.judge,
		inbox.Decided: c.answerAgain,
	}
}

func (c *call) answerNothing(api.Unit, inbox.Answer) {}

// answerParts: which segments are there. Nobody asks by express: what is missing there comes by freight, whole.
func (c *call) answerParts(u api.Unit, a inbox.Answer) {
	if u.Path == api.Freight {
		c.report(u, 0, a.Got)
	}
}

func (c *call) answerAgain(u api.Unit, a inbox.Answer) { c.report(u, a.Code, nil) }

// report: of a unit's session.
func (c *call) report(u api.Unit, code int, got []api.Range) {
	c.effect.Units = append(c.effect.Units, api.Unit{Kind: api.Report, Epoch: u.Epoch, Session: u.Session, Code: code, Got: got})
}

// judge: a block that is whole. Where there was no room for its frame nothing is decided: the session stays open, and its next unit tries again.
func (c *call) judge(u api.Unit, a inbox.Answer) {
	code := c.store(u, a.Block)
	if code == 0 {
		return
	}
	c.of.inbox.Decide(sessionOf(u), code)
	c.report(u, code, nil)
}

// store: the frame of a block that the unit made whole: what became of it; 0, if nothing did.
func (c *call) store(u api.Unit, block []byte) int {
	s := c.of
	f, newest, ours := s.frameOf(block)
	if !ours {
		return api.Unheard
	}
	shown, e := s.db.Insert(f, s.clock, newest && u.Path == api.Express)
	s.mustStand()
	if shown {
		c.effect.Shown = append(c.effect.Shown, f)
	}
	return codes()[e]
}

// frameOf: what a block carries, and whether it is a frame from the peer to this node.
func (s *Service) frameOf(block []byte) (f api.Frame, newest, ours bool) {
	b, e := bundle.Decode(block)
	if e != api.OK {
		return api.Frame{}, false, false
	}
	f, from, newest, e := bundle.Open(b)
	return f, newest, e == api.OK && b.Dest.Node == s.self && from == s.peer
}

// codes: what became of a frame, by what Insert answered. That there is no room (api.ErrFull) is not among them: it may come.
func codes() map[api.Errno]int {
	return map[api.Errno]int{
		api.OK:         api.Stored,
		api.ErrTwice:   api.Stored,
		api.ErrOld:     api.TooOld,
		api.ErrExpired: api.TooLate,
		api.ErrSize:    api.TooGreat,
		api.ErrStream:  api.Unheard,
	}
}
