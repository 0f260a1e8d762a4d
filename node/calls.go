package node

import (
	"halyard/api"
	"halyard/service"
)

// do: one of the nine calls. What it committed lasts ahead of anything being told; a table that has fallen, in whichever part of the call, takes the node with it.
func (n *Node) do(what func() (service.Effect, api.Errno)) (service.Effect, api.Errno) {
	switch {
	case !n.made():
		return service.Effect{}, api.ErrArg
	case !n.Up():
		return service.Effect{}, api.ErrDown
	}
	x, e := what()
	if e == api.OK {
		e = lasts(n.table)
	}
	if fallen := n.table.Commit(); fallen != api.OK {
		n.fall()
		return service.Effect{}, fallen
	}
	return x, e
}

// alter: one of those of the nine calls that have no effect.
func (n *Node) alter(what func() api.Errno) api.Errno {
	_, e := n.do(func() (service.Effect, api.Errno) { return service.Effect{}, what() })
	return e
}

// Listen, Unlisten, Begin, Cease: of the service's database and backlog; each lasts when it answers OK.
func (n *Node) Listen(stream int, q api.Quota) api.Errno {
	return n.alter(func() api.Errno { return n.service.DB().Listen(stream, q) })
}

func (n *Node) Unlisten(stream int) api.Errno {
	return n.alter(func() api.Errno { return n.service.DB().Unlisten(stream) })
}

func (n *Node) Begin(stream int) api.Errno {
	return n.alter(func() api.Errno { return n.service.Backlog().Begin(stream) })
}

func (n *Node) Cease(stream int) api.Errno {
	return n.alter(func() api.Errno { return n.service.Backlog().Cease(stream) })
}

// Send, Cancel, Kick, Hear, Tick: of the service; what comes of it lasts, and is told behind that alone.
func (n *Node) Send(stream int, time, life uint64, data []byte, now uint64) (api.Key, service.Effect, api.Errno) {
	var k api.Key
	x, e := n.do(func() (x service.Effect, e api.Errno) {
		k, x, e = n.service.Send(stream, time, life, data, now)
		return x, e
	})
	if e != api.OK { // the frame may have been taken, and not last
		return api.Key{}, service.Effect{}, e
	}
	return k, x, api.OK
}

func (n *Node) Cancel(k api.Key, now uint64) (service.Effect, api.Errno) {
	return n.do(func() (service.Effect, api.Errno) { return n.service.Cancel(k, now) })
}

func (n *Node) Kick(now uint64) (service.Effect, api.Errno) {
	return n.do(func() (service.Effect, api.Errno) { return n.service.Kick(now) })
}

func (n *Node) Hear(b []byte, now uint64) (service.Effect, api.Errno) {
	return n.do(func() (service.Effect, api.Errno) { return n.service.Hear(b, now) })
}

func (n *Node) Tick(now uint64) (service.Effect, api.Errno) {
	return n.do(func() (service.Effect, api.Errno) { return n.service.Tick(now) })
}
