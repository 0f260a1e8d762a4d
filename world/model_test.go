package world_test

import (
	"bytes"
	"fmt"
	"math"
	"math/rand"
	"slices"
	"testing"

	"halyard/api"
	"halyard/node"
	"halyard/octet"
	"halyard/pdu"
	"halyard/service"
	"halyard/world"
)

// datagram: as the chapters say it: bytes, and whether it was turned.
type datagram struct {
	bytes  []byte
	turned bool
}

// plain: a world as the chapter says it: two nodes of its own, and rows of datagrams.
type plain struct {
	room  int
	now   uint64
	nodes [3]*node.Node // by their numbers
	ways  [3][3][]datagram
}

func newPlain(t *testing.T, s world.Setup) *plain {
	t.Helper()
	p := &plain{room: s.Room, now: s.Start}
	for n := uint64(1); n <= 2; n++ {
		x, e := node.New(s.Config, n, 3-n, s.Sectors, s.Start)
		is(t, "P1902: New", e, api.OK)
		p.nodes[n] = x
	}
	return p
}

// lets: a node's effect out.
func (p *plain) lets(n int, x service.Effect, e api.Errno) world.Seen {
	s := world.Seen{Error: e, Shown: x.Shown}
	for _, u := range x.Units {
		b, e := pdu.Encode(u)
		if e != api.OK {
			panic("a node's unit has no bytes")
		}
		way := 2
		if u.Kind == api.Data && u.Path == api.Express {
			way = 1
		}
		if len(p.ways[n][way]) < p.room {
			p.ways[n][way] = append(p.ways[n][way], datagram{bytes: b})
			s.Sent++
		} else {
			s.Lost++
		}
	}
	for _, d := range x.Done {
		s.Done = append(s.Done, world.Told{Node: n, Done: d})
	}
	return s
}

// do: a step that is one.
func (p *plain) do(s world.Step) world.Seen {
	switch {
	case s.Kind == world.Tick:
		return p.tick(s.Ticks)
	case hasWay(s.Kind):
		return p.befalls(s)
	case s.Kind >= world.OpenCursor:
		return p.plays(s)
	}
	n := p.nodes[s.Node]
	switch s.Kind {
	case world.Listen:
		return failed(n.Listen(s.Stream, s.Quota))
	case world.Unlisten:
		return failed(n.Unlisten(s.Stream))
	case world.Begin:
		return failed(n.Begin(s.Stream))
	case world.Cease:
		return failed(n.Cease(s.Stream))
	case world.Send:
		k, x, e := n.Send(s.Stream, s.Time, s.Life, s.Data, p.now)
		seen := p.lets(s.Node, x, e)
		seen.Key = k
		return seen
	case world.Cut:
		n.Cut(s.At)
		return world.Seen{}
	case world.Crash:
		n.Crash(s.Choices)
		return world.Seen{}
	}
	x, e := service.Effect{}, api.OK
	switch s.Kind {
	case world.Cancel:
		x, e = n.Cancel(key(s.Stream, s.Seq), p.now)
	case world.Kick:
		x, e = n.Kick(p.now)
	case world.Restart:
		x, e = n.Restart(p.now)
	}
	return p.lets(s.Node, x, e)
}

func (p *plain) tick(ticks uint64) world.Seen {
	if ticks > top-p.now {
		p.now = top
	} else {
		p.now += ticks
	}
	var l [3]world.Seen
	for n := 1; n <= 2; n++ {
		if p.nodes[n].Up() {
			x, e := p.nodes[n].Tick(p.now)
			l[n] = p.lets(n, x, e)
		}
	}
	s := world.Seen{Error: l[1].Error, Done: slices.Concat(l[1].Done, l[2].Done), Shown: slices.Concat(l[1].Shown, l[2].Shown), Sent: l[1].Sent + l[2].Sent, Lost: l[1].Lost + l[2].Lost}
	if s.Error == api.OK {
		s.Error = l[2].Error
	}
	return s
}

func (p *plain) befalls(s world.Step) world.Seen {
	row := p.ways[s.Node][s.Way]
	if s.Place < 0 || s.Place >= len(row) {
		return failed(api.ErrNone)
	}
	d := row[s.Place]
	switch s.Kind {
	case world.Double:
		if len(row) == p.room {
			return failed(api.ErrFull)
		}
		p.ways[s.Node][s.Way] = append(row, d)
		return world.Seen{}
	case world.Turn:
		for bit := range 32 {
			if at := s.At + bit; s.Mask>>bit&1 == 1 && (at < 0 || at >= 8*len(d.bytes)) {
				return failed(api.ErrArg)
			}
		}
		switch {
		case s.Mask == 0:
			return failed(api.ErrArg)
		case d.turned:
			return failed(api.ErrTwice)
		}
		row[s.Place] = datagram{octet.Burst(d.bytes, s.At, s.Mask), true}
		return world.Seen{}
	}
	p.ways[s.Node][s.Way] = slices.Delete(slices.Clone(row), s.Place, s.Place+1)
	if s.Kind == world.Drop || !p.nodes[3-s.Node].Up() {
		return world.Seen{}
	}
	x, e := p.nodes[3-s.Node].Hear(d.bytes, p.now)
	return p.lets(3-s.Node, x, e)
}

func (p *plain) plays(s world.Step) (x world.Seen) {
	n := p.nodes[s.Node]
	if !n.Up() {
		return failed(api.ErrDown)
	}
	switch l := n.Player(); s.Kind {
	case world.OpenCursor:
		x.Cursor, x.Error = l.Open(s.Stream)
	case world.CloseCursor:
		x.Error = l.Close(s.Cursor)
	case world.Seek:
		x.Frame, x.Error = l.Seek(s.Cursor, s.Time)
	case world.Next:
		x.Frame, x.Error = l.Next(s.Cursor)
	case world.Prev:
		x.Frame, x.Error = l.Prev(s.Cursor)
	case world.Rewind:
		x.Error = l.Rewind(s.Cursor)
	case world.Gaps:
		x.Gaps, x.Error = l.Gaps(s.Stream, s.Time, s.To)
	}
	return x
}

// held: a world, and the plain one, behind the same steps.
type held struct {
	t     *testing.T
	world *world.World
	plain *plain
	row   []world.Step
}

func newHeld(t *testing.T, s world.Setup) *held {
	t.Helper()
	return &held{t: t, world: fresh(t, s), plain: newPlain(t, s)}
}

// do: one step of both: they come to the same, and what there is is the same.
func (h *held) do(s world.Step) world.Seen {
	h.t.Helper()
	h.row = append(h.row, s)
	got, e := h.world.Do(s)
	if want := h.plain.do(s); e != api.OK || !same(got, want) {
		h.t.Fatalf("P2003: the last of %+v came to %+v, %v, want %+v", h.row, got, e, want)
	}
	if h.world.Now() != h.plain.now {
		h.t.Fatalf("P2004: behind %+v the clock is at %d, want %d", h.row, h.world.Now(), h.plain.now)
	}
	for n := 1; n <= 2; n++ {
		for way := 1; way <= 2; way++ {
			want := h.plain.ways[n][way]
			if got := h.world.Way(n, way); !slices.EqualFunc(got, want, func(b []byte, d datagram) bool { return bytes.Equal(b, d.bytes) }) {
				h.t.Fatalf("P2004: behind %+v on way %d away from %d are %v, want %v", h.row, way, n, got, want)
			}
		}
		h.sameNode(h.world.Node(n), h.plain.nodes[n])
	}
	return got
}

func (h *held) sameNode(got, want *node.Node) {
	h.t.Helper()
	gs, gv := got.Disk().Dirty()
	ws, wv := want.Disk().Dirty()
	if got.Up() != want.Up() || got.Disk().Down() != want.Disk().Down() || !slices.Equal(gs, ws) || !slices.Equal(gv, wv) || !bytes.Equal(got.Disk().Image(), want.Disk().Image()) {
		h.t.Fatalf("P2003: behind %+v a node is another one: %v, %v, want %v, %v", h.row, got.Up(), gs, want.Up(), ws)
	}
	if tells(got.Service()) != tells(want.Service()) {
		h.t.Fatalf("P2003: behind %+v a node has\n%s\nwant\n%s", h.row, tells(got.Service()), tells(want.Service()))
	}
	if got.Up() && (fmt.Sprint(got.Service().State()) != fmt.Sprint(want.Service().State()) || !slices.Equal(got.Player().Cursors(), want.Player().Cursors())) {
		h.t.Fatalf("P2003: behind %+v a node's state is %+v, want %+v", h.row, got.Service().State(), want.Service().State())
	}
}

// letters: what the rows are made of.
func letters() []world.Step {
	return []world.Step{
		sends(1, 3, 100, 50, "abc"), sends(1, 3, 90, 20, ""), sends(2, 3, 100, 50, "abc"), delivers(1, 1, 0), delivers(1, 2, 0), delivers(2, 2, 0), delivers(2, 1, 0),
		drops(1, 1, 0), doubles(1, 1, 0), doubles(2, 2, 0), turns(1, 1, 0, 5, 9), turns(2, 2, 0, 0, 1), ticks(10), ticks(60), kicks(1), cancels(1, 3, 0),
		cuts(1, 0), cuts(2, 1), crashes(1, 1), crashes(2), restarts(1), restarts(2), unlistens(2, 3), nexts(2, 1), seeks(2, 1, 95),
	}
}

// rows: every row of so many letters, in a world that begins with these steps.
func rows(t *testing.T, s world.Setup, letters []world.Step, length int, first ...world.Step) {
	row := make([]int, length)
	for {
		h := newHeld(t, s)
		for _, x := range first {
			h.do(x)
		}
		for _, i := range row {
			h.do(letters[i])
		}
		at := length - 1
		for ; at >= 0; at-- {
			row[at]++
			if row[at] < len(letters) {
				break
			}
			row[at] = 0
		}
		if at < 0 {
			return
		}
	}
}

func small(room int) world.Setup {
	s := setup()
	s.Sectors, s.Room = 83, room
	return s
}

// TestRows: each row of so few steps, on ways with room and without.
func TestRows(t *testing.T) {
	t.Parallel()
	first := []world.Step{begins(1, 3), begins(2, 3), listens(2, 3, quota(1, 20)), listens(1, 3, quota(2, 20)), opens(2, 3), sends(1, 3, 99, 40, "first")}
	rows(t, small(16), letters(), 2, first...)
	rows(t, small(1), letters(), 2, first...)
	few := slices.DeleteFunc(letters(), func(s world.Step) bool {
		return slices.Contains([]int{world.Kick, world.Unlisten, world.Drop, world.Crash, world.Cancel}, s.Kind) || s.Ticks == 60 || s.Node == 2 && (s.Kind == world.Send || s.Kind == world.Turn)
	})
	rows(t, small(2), few, 3, first...)
}

// TestRowsOfFive: of those steps that hang on one another most.
func TestRowsOfFive(t *testing.T) {
	t.Parallel()
	few := []world.Step{sends(1, 3, 100, 50, "abc"), delivers(1, 1, 0), delivers(2, 2, 0), doubles(1, 1, 0), ticks(10), delivers(1, 2, 0)}
	rows(t, small(2), few, 5, begins(1, 3), listens(2, 3, quota(2, 20)))
}

func someConfig(r *rand.Rand) api.Config {
	c := api.Config{Mtu: 16 + r.Intn(1+r.Intn(200)), AckTime: 1 + uint64(r.Intn(20)), RetryTime: 1 + uint64(r.Intn(20)), Retries: r.Intn(4), Window: 1 + r.Intn(8)}
	c.Inbox = c.Window + r.Intn(33-c.Window)
	return c
}

func someSetup(r *rand.Rand) world.Setup {
	return world.Setup{Config: someConfig(r), Sectors: []int{83, 90, 120, 400}[r.Intn(4)], Room: []int{1, 2, 5, 30, 1024}[r.Intn(5)], Start: someStart(r)}
}

// someStart: soon at the end of time, now and then.
func someStart(r *rand.Rand) uint64 {
	if r.Intn(8) == 0 {
		return top - uint64(r.Intn(400))
	}
	return uint64(r.Intn(1000))
}

func someChoices(r *rand.Rand) (l []int) {
	for range r.Intn(5) {
		l = append(l, []int{0, 1, 2, -1, math.MaxInt}[r.Intn(5)])
	}
	return l
}

// place: of a datagram that is there, as a rule.
func place(r *rand.Rand, w *world.World, n, way int) int {
	if l := len(w.Way(n, way)); l > 0 && r.Intn(20) > 0 {
		return r.Intn(l)
	}
	return r.Intn(4) - 1
}

// stroke: a step by chance, often of what is there.
func stroke(r *rand.Rand, w *world.World) world.Step {
	n, way, stream := 1+r.Intn(2), 1+r.Intn(2), []int{0, 0, 0, 1, 1, 2, 8, -1}[r.Intn(8)]
	if len(w.Way(n, way)) == 0 {
		way = 3 - way
	}
	now := w.Now()
	switch x := r.Intn(100); {
	case x < 25:
		return sends(n, stream, now+uint64(r.Intn(9))-min(now, 4), uint64(1+r.Intn(70)), string(make([]byte, r.Intn(1+r.Intn(60)))))
	case x < 55:
		return delivers(n, way, place(r, w, n, way))
	case x < 58:
		return drops(n, way, place(r, w, n, way))
	case x < 61:
		return doubles(n, way, place(r, w, n, way))
	case x < 65:
		return turns(n, way, place(r, w, n, way), r.Intn(200)-3, uint32(r.Intn(9))<<r.Intn(29))
	case x < 77:
		return ticks(uint64(r.Intn(8)))
	case x < 80:
		return kicks(n)
	case x < 82:
		return cancels(n, stream, uint64(r.Intn(12)))
	case x < 85:
		return []world.Step{begins(n, stream), ceases(n, stream), listens(n, stream, quota(r.Intn(6), r.Intn(100))), unlistens(n, stream)}[r.Intn(4)]
	case x < 87:
		return cuts(n, r.Intn(9)-1)
	case x < 88:
		return crashes(n, someChoices(r)...)
	case x < 90:
		return restarts(n)
	}
	c := r.Intn(4)
	return []world.Step{opens(n, max(stream, 0)%2), closes(n, c), seeks(n, c, now-min(now, uint64(r.Intn(30)))), nexts(n, c), nexts(n, c), prevs(n, c), rewinds(n, c), gaps(n, stream, now-min(now, 40), now+5), opens(n, stream)}[r.Intn(9)]
}

// opening: streams that both send and listen to.
func opening(r *rand.Rand) (l []world.Step) {
	for n := 1; n <= 2; n++ {
		for stream := range 2 {
			l = append(l, begins(n, stream), listens(n, stream, quota(1+r.Intn(10), 1+r.Intn(200))))
		}
		l = append(l, begins(n, 2), opens(n, 0), opens(n, 1))
	}
	return l
}

func TestByChance(t *testing.T) {
	t.Parallel()
	falls := 0
	for seed := range int64(50) {
		r := rand.New(rand.NewSource(seed))
		h := newHeld(t, someSetup(r))
		for _, s := range opening(r) {
			h.do(s)
		}
		for range 400 {
			if x := h.do(stroke(r, h.world)); x.Error == api.ErrPower {
				falls++
			}
			for n := 1; n <= 2; n++ {
				if !h.world.Node(n).Up() && r.Intn(4) == 0 {
					h.do(crashes(n, someChoices(r)...))
					if x := h.do(restarts(n)); x.Error != api.OK {
						t.Fatalf("P1907: Restart behind a Crash came to %+v", x)
					}
				}
			}
		}
	}
	if falls < 50 {
		t.Errorf("the power failed %d times", falls)
	}
}
