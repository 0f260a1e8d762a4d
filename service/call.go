package service

import (
	"halyard/api"
	"halyard/dual"
)

// call: one of a service, and what came of it so far.
type call struct {
	of     *Service
	effect Effect
}

// refused: what goes up from a call that ends with an error.
type refused struct{ why api.Errno }

// must: leaves the call, unless that is OK.
func must(e api.Errno) {
	if e != api.OK {
		panic(refused{e})
	}
}

func (s *Service) made() bool { return s != nil && s.table != nil }

// do: a call at that time: what comes of it; nothing but the error, wherever it was refused. A service whose table has fallen does nothing any more.
func (s *Service) do(now uint64, what func(*call)) (x Effect, e api.Errno) {
	if !s.made() {
		return Effect{}, api.ErrArg
	}
	defer func() {
		switch up := recover().(type) {
		case nil:
		case refused:
			x, e = Effect{}, up.why
		default:
			panic(up)
		}
	}()
	s.mustStand()
	s.goOn(now)
	c := call{of: s}
	what(&c)
	return c.effect, api.OK
}

// mustStand: leaves the call, if the table has fallen.
func (s *Service) mustStand() { must(s.table.Commit()) }

// add: what the engine tells to be sent, and to rest.
func (c *call) add(out dual.Out) {
	c.effect.Units = append(c.effect.Units, out.Units...)
	c.effect.Rest = append(c.effect.Rest, out.Rest...)
}

// send: a frame of the backlog goes.
func (c *call) send(f api.Frame, newest bool) {
	s := c.of
	out, _ := s.engine.Send(keyOf(f), s.block(f, newest), newest, s.clock) // it has room for all that the backlog has
	c.add(out)
}

func keyOf(f api.Frame) api.Key { return api.Key{Stream: f.Stream, Seq: f.Stamp.Seq} }

// end: a frame is done with: it is in the backlog no more.
func (c *call) end(d api.Done) {
	must(c.of.backlog.Done(d.Key))
	c.effect.Done = append(c.effect.Done, d)
}

// giveUp: a frame is done with, though the other node has not told of it.
func (c *call) giveUp(k api.Key, code int) {
	c.end(api.Done{Key: k, Code: code})
	out, _ := c.of.engine.Cancel(k, c.of.clock)
	c.add(out)
}

// tick: lives that are over, those of own frames first; then the engine's timers.
func (c *call) tick() {
	s := c.of
	for _, k := range s.backlog.Over(s.clock) {
		c.giveUp(k, api.Expired)
	}
	_, e := s.db.Sweep(s.clock)
	must(e)
	c.add(s.engine.Tick(s.clock))
}
