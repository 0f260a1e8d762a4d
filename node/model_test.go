package node_test

import (
	"bytes"
	"fmt"
	"math"
	"math/rand"
	"slices"
	"testing"

	"halyard/api"
	"halyard/disk"
	"halyard/node"
	"halyard/service"
	"halyard/table"
)

// plain: a node as the chapter says it: each call step by step, by hand, on a disk, a table and a service of its own.
type plain struct {
	sectors int
	disk    *disk.Disk
	table   *table.Table
	service *service.Service
	up      bool
	cursors int
}

func newPlain(t *testing.T, sectors int, now uint64) *plain {
	t.Helper()
	d, e := disk.New(sectors)
	is(t, "P4.1: New", e, api.OK)
	is(t, "P6.1: Format", table.Format(d, 0, sectors), api.OK)
	p := &plain{sectors: sectors, disk: d}
	if a := p.restart(now); a.e != api.OK {
		t.Fatalf("P1702: Open = %+v", a)
	}
	return p
}

func (p *plain) restart(now uint64) answer {
	if p.up {
		return answer{e: api.ErrUp}
	}
	tb, e := table.Open(p.disk, 0, p.sectors)
	if e != api.OK {
		return answer{e: e}
	}
	s, x, e := service.Open(tb, config(), 1, 2, now)
	if e != api.OK {
		return answer{e: e}
	}
	if tb.Unflushed() > 0 {
		if e := tb.Flush(); e != api.OK {
			return answer{e: e}
		}
	}
	p.table, p.service, p.up, p.cursors = tb, s, true, 0
	return answer{effect: x}
}

// call: one of the nine.
func (p *plain) call(what func(s *service.Service) answer) answer {
	if !p.up {
		return answer{e: api.ErrDown}
	}
	a := what(p.service)
	if a.e == api.OK && p.table.Unflushed() > 0 {
		p.table.Flush()
	}
	if e := p.table.Commit(); e != api.OK {
		p.up = false
		return answer{e: e}
	}
	if a.e != api.OK {
		return answer{e: a.e}
	}
	return a
}

// act: what happens to a node, and to a plain one.
type act struct {
	name  string
	node  func(n *node.Node) answer
	plain func(p *plain) answer
}

// face: what a node and a service have in common.
type face interface {
	Send(stream int, time, life uint64, data []byte, now uint64) (api.Key, service.Effect, api.Errno)
	Cancel(k api.Key, now uint64) (service.Effect, api.Errno)
	Kick(now uint64) (service.Effect, api.Errno)
	Hear(b []byte, now uint64) (service.Effect, api.Errno)
	Tick(now uint64) (service.Effect, api.Errno)
}

func both(name string, do func(f face) answer) act {
	return act{name, func(n *node.Node) answer { return do(n) }, func(p *plain) answer {
		return p.call(func(s *service.Service) answer { return do(s) })
	}}
}

func sends(stream int, time, life uint64, data string, now uint64) act {
	return both(fmt.Sprintf("Send(%d, %d, %d, %d bytes, %d)", stream, time, life, len(data), now), func(f face) answer {
		return withKey(f.Send(stream, time, life, []byte(data), now))
	})
}

func cancels(k api.Key, now uint64) act {
	return both(fmt.Sprintf("Cancel(%v, %d)", k, now), func(f face) answer { return withEffect(f.Cancel(k, now)) })
}

func kicks(now uint64) act {
	return both(fmt.Sprintf("Kick(%d)", now), func(f face) answer { return withEffect(f.Kick(now)) })
}

func hears(what string, b []byte, now uint64) act {
	return both(fmt.Sprintf("Hear(%s, %d)", what, now), func(f face) answer { return withEffect(f.Hear(b, now)) })
}

func ticks(now uint64) act {
	return both(fmt.Sprintf("Tick(%d)", now), func(f face) answer { return withEffect(f.Tick(now)) })
}

func listens(stream int, q api.Quota) act {
	return act{fmt.Sprintf("Listen(%d, %v)", stream, q), func(n *node.Node) answer { return alone(n.Listen(stream, q)) }, func(p *plain) answer {
		return p.call(func(s *service.Service) answer { return alone(s.DB().Listen(stream, q)) })
	}}
}

func unlistens(stream int) act {
	return act{fmt.Sprintf("Unlisten(%d)", stream), func(n *node.Node) answer { return alone(n.Unlisten(stream)) }, func(p *plain) answer {
		return p.call(func(s *service.Service) answer { return alone(s.DB().Unlisten(stream)) })
	}}
}

func begins(stream int) act {
	return act{fmt.Sprintf("Begin(%d)", stream), func(n *node.Node) answer { return alone(n.Begin(stream)) }, func(p *plain) answer {
		return p.call(func(s *service.Service) answer { return alone(s.Backlog().Begin(stream)) })
	}}
}

func ceases(stream int) act {
	return act{fmt.Sprintf("Cease(%d)", stream), func(n *node.Node) answer { return alone(n.Cease(stream)) }, func(p *plain) answer {
		return p.call(func(s *service.Service) answer { return alone(s.Backlog().Cease(stream)) })
	}}
}

func cuts(operations int) act {
	return act{fmt.Sprintf("Cut(%d)", operations), func(n *node.Node) answer { n.Cut(operations); return answer{} }, func(p *plain) answer {
		p.disk.Cut(operations)
		return answer{}
	}}
}

func crashes(choices ...int) act {
	return act{fmt.Sprintf("Crash(%v)", choices), func(n *node.Node) answer { n.Crash(choices); return answer{} }, func(p *plain) answer {
		p.up = false
		p.disk.Crash(choices)
		return answer{}
	}}
}

func restarts(now uint64) act {
	return act{fmt.Sprintf("Restart(%d)", now), func(n *node.Node) answer { return withEffect(n.Restart(now)) }, func(p *plain) answer { return p.restart(now) }}
}

// plays: a cursor more.
func plays() act {
	return act{"Open", func(n *node.Node) answer {
		if p := n.Player(); p != nil {
			_, e := p.Open(5)
			return alone(e)
		}
		return alone(api.ErrDown)
	}, func(p *plain) answer {
		switch {
		case !p.up:
			return alone(api.ErrDown)
		case p.cursors == api.MaxCursors:
			return alone(api.ErrFull)
		}
		p.cursors++
		return alone(api.OK)
	}}
}

func sameState(a, b service.State) bool { return fmt.Sprint(a) == fmt.Sprint(b) }

// held: the node, and the plain one, behind the same calls.
type held struct {
	t     *testing.T
	node  *node.Node
	plain *plain
	row   []string
	text  string // what the plain one told last
}

func newHeld(t *testing.T, sectors int) *held {
	t.Helper()
	return &held{t: t, node: fresh(t, sectors), plain: newPlain(t, sectors, 100)}
}

// do: one call of both: they answer alike, and what there is is alike.
func (h *held) do(a act) answer {
	h.t.Helper()
	h.row = append(h.row, a.name)
	want, got := a.plain(h.plain), a.node(h.node)
	if !got.same(want) {
		h.t.Fatalf("P1903: %v = %+v, want %+v", h.row, got, want)
	}
	n, p := h.node, h.plain
	if n.Up() != p.up {
		h.t.Fatalf("P1904: behind %v Up is %v", h.row, n.Up())
	}
	gs, gv := n.Disk().Dirty()
	ws, wv := p.disk.Dirty()
	if n.Disk().Down() != p.disk.Down() || !slices.Equal(gs, ws) || !slices.Equal(gv, wv) || !bytes.Equal(n.Disk().Image(), p.disk.Image()) {
		h.t.Fatalf("P1903: behind %v the disk is another one: %v, %v, %v, want %v, %v, %v", h.row, n.Disk().Down(), gs, gv, p.disk.Down(), ws, wv)
	}
	if !p.up {
		isDown(h.t, n)
		return got
	}
	isUp(h.t, n)
	if x, y := n.Service().State(), p.service.State(); !sameState(x, y) {
		h.t.Fatalf("P1903: behind %v the state is %+v, want %+v", h.row, x, y)
	}
	if x, y := tells(n.Service()), tells(p.service); x != y {
		h.t.Fatalf("P1903: behind %v there is\n%s\nwant\n%s", h.row, x, y)
	}
	if l := n.Player().Cursors(); len(l) != p.cursors {
		h.t.Fatalf("P1904: behind %v the player has the cursors %v", h.row, l)
	}
	return got
}

// letters: what the rows are made of.
func letters(t *testing.T) []act {
	return []act{
		begins(3), ceases(3), listens(5, api.Quota{Count: 2, Bytes: 9}), unlistens(5),
		sends(3, 200, 50, "abc", 100), sends(3, 190, 5, "", 101),
		cancels(key(3, 0), 102), kicks(103), ticks(120), ticks(300),
		hears("a frame", theirs(t, 1, 100, "abc"), 104), hears("a report", reported(t, 2, 1, api.Stored), 105), hears("no unit", []byte{1}, 106),
		cuts(0), cuts(1), cuts(2), cuts(-1),
		crashes(), crashes(1, 1, 1), crashes(7), restarts(50), restarts(400), plays(),
	}
}

// rows: every row of so many letters, on a node that begins with these calls.
func rows(t *testing.T, letters []act, length, sectors int, first ...act) {
	row := make([]int, length)
	for {
		h := newHeld(t, sectors)
		for _, a := range first {
			h.do(a)
		}
		for _, i := range row {
			h.do(letters[i])
		}
		at := length - 1
		for ; at >= 0; at-- {
			row[at]++
			if row[at] < len(letters) {
				break
			}
			row[at] = 0
		}
		if at < 0 {
			return
		}
	}
}

func TestRows(t *testing.T) {
	t.Parallel()
	all := letters(t)
	rows(t, all, 2, 100)
	few := slices.DeleteFunc(all, func(a act) bool {
		return slices.Contains([]string{"Cut(-1)", "Crash([7])", "Restart(400)", "Cut(0)", "Kick(103)", "Open", "Tick(120)"}, a.name)
	})
	rows(t, few, 3, 83, begins(3), sends(3, 150, 60, "first", 100))
}

func TestRowsOfFive(t *testing.T) {
	t.Parallel()
	few := []act{sends(3, 200, 50, "abc", 100), cuts(1), crashes(1), restarts(101), cuts(2)}
	rows(t, few, 5, 83, begins(3))
}

// stroke: an act by chance; the clock goes on by little, mostly.
func stroke(t *testing.T, r *rand.Rand, now uint64) act {
	stream := []int{3, 3, 3, 4, 5, 9, -1}[r.Intn(7)]
	seq := uint64(r.Intn(20))
	session := uint64(r.Intn(12) + 1)
	switch r.Intn(22) {
	case 0:
		return begins(stream)
	case 1:
		return ceases([]int{4, 5, 9}[r.Intn(3)])
	case 2:
		return listens([]int{5, 6, 9}[r.Intn(3)], api.Quota{Count: r.Intn(5), Bytes: 40})
	case 3:
		if r.Intn(4) > 0 {
			return plays()
		}
		return unlistens([]int{5, 6, 9}[r.Intn(3)])
	case 4, 5, 6, 7:
		return sends(stream, now+uint64(r.Intn(9))-min(now, 4), uint64(r.Intn(60)), string(make([]byte, r.Intn(30))), now)
	case 8:
		return cancels(key(3, seq), now)
	case 9:
		return kicks(now)
	case 10, 11, 12:
		return hears(fmt.Sprintf("their %d", session), theirs(t, session+now/40*12, now+seq-min(now, 10), "abcdef"[:r.Intn(6)]), now)
	case 13, 14:
		return hears(fmt.Sprintf("report of %d", session), reported(t, uint64(2+r.Intn(3)), session, r.Intn(8)), now)
	case 15:
		return hears("no unit", make([]byte, r.Intn(40)), now)
	case 16, 17, 18:
		return ticks(now)
	case 19:
		return cuts(r.Intn(12) - 1)
	case 20:
		return crashes(choices(r)...)
	}
	return restarts(now)
}

func choices(r *rand.Rand) (l []int) {
	for range r.Intn(5) {
		l = append(l, []int{0, 1, 2, -1, math.MaxInt}[r.Intn(5)])
	}
	return l
}

func TestByChance(t *testing.T) {
	t.Parallel()
	for seed := range int64(60) {
		r := rand.New(rand.NewSource(seed))
		h := newHeld(t, []int{83, 90, 120, 400}[seed%4])
		h.do(begins(3))
		h.do(listens(5, api.Quota{Count: 4, Bytes: 12}))
		now, falls := uint64(100), 0
		for range 300 {
			now += uint64(r.Intn(6))
			a := h.do(stroke(t, r, now))
			if a.e == api.ErrPower {
				falls++
			}
			if !h.node.Up() && r.Intn(2) == 0 {
				h.do(crashes(choices(r)...))
				if a := h.do(restarts(now)); a.e != api.OK {
					t.Fatalf("P1907: Restart behind a Crash = %+v", a)
				}
			}
		}
		if falls == 0 {
			t.Errorf("the row of the seed %d has no fall by the power", seed)
		}
	}
}
