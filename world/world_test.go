package world_test

import (
	"bytes"
	"fmt"
	"math"
	"slices"
	"strings"
	"testing"

	"halyard/api"
	"halyard/node"
	"halyard/octet"
	"halyard/pdu"
	"halyard/service"
	"halyard/world"
)

const top = api.MaxNumber

func config() api.Config {
	return api.Config{Mtu: 64, AckTime: 10, RetryTime: 20, Retries: 2, Window: 2, Inbox: 4}
}

func setup() world.Setup {
	return world.Setup{Config: config(), Sectors: 256, Room: 16, Start: 100}
}

func quota(count, bytes int) api.Quota { return api.Quota{Count: count, Bytes: bytes} }

func key(stream int, seq uint64) api.Key { return api.Key{Stream: stream, Seq: seq} }

func is(t *testing.T, what string, got, want api.Errno) {
	t.Helper()
	if got != want {
		t.Fatalf("%s = %v, want %v", what, got, want)
	}
}

// fresh: a new world.
func fresh(t *testing.T, s world.Setup) *world.World {
	t.Helper()
	w, e := world.New(s)
	if w == nil || e != api.OK {
		t.Fatalf("P2002: New(%+v) = %v, %v", s, w, e)
	}
	return w
}

// done: what a step came to that is one.
func done(t *testing.T, w *world.World, s world.Step) world.Seen {
	t.Helper()
	x, e := w.Do(s)
	is(t, fmt.Sprintf("P2003: Do(%+v)", s), e, api.OK)
	return x
}

// steps: several of them, each of which comes to no error; the last one's is answered.
func steps(t *testing.T, w *world.World, all ...world.Step) (x world.Seen) {
	t.Helper()
	for _, s := range all {
		x = done(t, w, s)
		is(t, fmt.Sprintf("P2003: the error of %+v", s), x.Error, api.OK)
	}
	return x
}

// begun: one in which node 1 sends the stream 3 and node 2 listens to it.
func begun(t *testing.T, s world.Setup) *world.World {
	t.Helper()
	w := fresh(t, s)
	steps(t, w, begins(1, 3), listens(2, 3, quota(4, 1000)))
	return w
}

func ticks(n uint64) world.Step { return world.Step{Kind: world.Tick, Ticks: n} }

func listens(n, stream int, q api.Quota) world.Step {
	return world.Step{Kind: world.Listen, Node: n, Stream: stream, Quota: q}
}

func unlistens(n, stream int) world.Step {
	return world.Step{Kind: world.Unlisten, Node: n, Stream: stream}
}

func begins(n, stream int) world.Step {
	return world.Step{Kind: world.Begin, Node: n, Stream: stream}
}

func ceases(n, stream int) world.Step {
	return world.Step{Kind: world.Cease, Node: n, Stream: stream}
}

func sends(n, stream int, time, life uint64, data string) world.Step {
	return world.Step{Kind: world.Send, Node: n, Stream: stream, Time: time, Life: life, Data: []byte(data)}
}

func cancels(n, stream int, seq uint64) world.Step {
	return world.Step{Kind: world.Cancel, Node: n, Stream: stream, Seq: seq}
}

func kicks(n int) world.Step { return world.Step{Kind: world.Kick, Node: n} }

func delivers(n, way, place int) world.Step {
	return world.Step{Kind: world.Deliver, Node: n, Way: way, Place: place}
}

func drops(n, way, place int) world.Step {
	return world.Step{Kind: world.Drop, Node: n, Way: way, Place: place}
}

func doubles(n, way, place int) world.Step {
	return world.Step{Kind: world.Double, Node: n, Way: way, Place: place}
}

func turns(n, way, place, at int, mask uint32) world.Step {
	return world.Step{Kind: world.Turn, Node: n, Way: way, Place: place, At: at, Mask: mask}
}

func cuts(n, operations int) world.Step {
	return world.Step{Kind: world.Cut, Node: n, At: operations}
}

func crashes(n int, choices ...int) world.Step {
	return world.Step{Kind: world.Crash, Node: n, Choices: choices}
}

func restarts(n int) world.Step { return world.Step{Kind: world.Restart, Node: n} }

func opens(n, stream int) world.Step {
	return world.Step{Kind: world.OpenCursor, Node: n, Stream: stream}
}

func closes(n, cursor int) world.Step {
	return world.Step{Kind: world.CloseCursor, Node: n, Cursor: cursor}
}

func seeks(n, cursor int, time uint64) world.Step {
	return world.Step{Kind: world.Seek, Node: n, Cursor: cursor, Time: time}
}

func nexts(n, cursor int) world.Step {
	return world.Step{Kind: world.Next, Node: n, Cursor: cursor}
}

func prevs(n, cursor int) world.Step {
	return world.Step{Kind: world.Prev, Node: n, Cursor: cursor}
}

func rewinds(n, cursor int) world.Step {
	return world.Step{Kind: world.Rewind, Node: n, Cursor: cursor}
}

func gaps(n, stream int, from, to uint64) world.Step {
	return world.Step{Kind: world.Gaps, Node: n, Stream: stream, Time: from, To: to}
}

func frame(stream int, time, seq, life uint64, data string) api.Frame {
	return api.Frame{Stream: stream, Stamp: api.Stamp{Time: time, Seq: seq}, Life: life, Data: []byte(data)}
}

func sameFrame(a, b api.Frame) bool {
	return a.Stream == b.Stream && a.Stamp == b.Stamp && a.Life == b.Life && bytes.Equal(a.Data, b.Data)
}

func same(x, y world.Seen) bool {
	return x.Error == y.Error && x.Key == y.Key && slices.EqualFunc(x.Shown, y.Shown, sameFrame) && slices.Equal(x.Done, y.Done) &&
		x.Sent == y.Sent && x.Lost == y.Lost && sameFrame(x.Frame, y.Frame) && x.Cursor == y.Cursor && slices.Equal(x.Gaps, y.Gaps)
}

// seen: a step came to that, and to nothing else.
func seen(t *testing.T, w *world.World, s world.Step, want world.Seen) {
	t.Helper()
	if x := done(t, w, s); !same(x, want) {
		t.Fatalf("P2003: %+v came to %+v, want %+v", s, x, want)
	}
}

func failed(e api.Errno) world.Seen { return world.Seen{Error: e} }

func sent(n int) world.Seen { return world.Seen{Sent: n} }

func told(n int, k api.Key, code int) world.Seen {
	return world.Seen{Done: []world.Told{{Node: n, Done: api.Done{Key: k, Code: code}}}}
}

// onWays: how many datagrams there are on the ways: 1's express and freight, 2's express and freight.
func onWays(w *world.World) [4]int {
	return [4]int{len(w.Way(1, 1)), len(w.Way(1, 2)), len(w.Way(2, 1)), len(w.Way(2, 2))}
}

func lie(t *testing.T, w *world.World, want [4]int) {
	t.Helper()
	if got := onWays(w); got != want {
		t.Fatalf("P2004: on the ways are %v, want %v", got, want)
	}
}

// unit: of a datagram that lies there.
func unit(t *testing.T, w *world.World, n, way, place int) api.Unit {
	t.Helper()
	u, e := pdu.Decode(w.Way(n, way)[place])
	is(t, "P303: Decode", e, api.OK)
	return u
}

// tells: all that a service's backlog and database tell.
func tells(s *service.Service) string {
	if s == nil {
		return "down"
	}
	var b strings.Builder
	l, db := s.Backlog(), s.DB()
	fmt.Fprintln(&b, "begun", l.Streams())
	for _, k := range l.Keys() {
		f, _ := l.Get(k)
		fmt.Fprintln(&b, "kept", f)
	}
	for i := range api.MaxStreams {
		newest, some := l.Newest(i)
		q, heard := db.Quota(i)
		high, shown := db.High(i)
		floor, rolled := db.Floor(i)
		fmt.Fprintln(&b, i, l.Next(i), newest, some, q, heard, high, shown, floor, rolled)
		for f := range db.Frames(i) {
			fmt.Fprintln(&b, "has", f)
		}
	}
	return b.String()
}

// all: what a world tells of itself.
func all(w *world.World) string {
	var b strings.Builder
	fmt.Fprintln(&b, w.Now())
	for n := 1; n <= 2; n++ {
		x := w.Node(n)
		dirty, versions := x.Disk().Dirty()
		fmt.Fprintln(&b, w.Way(n, 1), w.Way(n, 2), dirty, versions, x.Disk().Down(), x.Up(), tells(x.Service()))
		if x.Up() {
			fmt.Fprintln(&b, x.Service().State(), x.Player().Cursors())
		}
	}
	return b.String()
}

func TestExampleOne(t *testing.T) {
	w := fresh(t, setup())
	f := frame(3, 100, 0, 50, "abc")
	seen(t, w, begins(1, 3), world.Seen{})
	seen(t, w, listens(2, 3, quota(4, 1000)), world.Seen{})
	seen(t, w, sends(1, 3, 100, 50, "abc"), world.Seen{Key: key(3, 0), Sent: 1})
	lie(t, w, [4]int{1, 0, 0, 0})
	seen(t, w, delivers(1, 1, 0), world.Seen{Shown: []api.Frame{f}, Sent: 1})
	lie(t, w, [4]int{0, 0, 0, 1})
	seen(t, w, delivers(2, 2, 0), told(1, key(3, 0), api.Stored))
	lie(t, w, [4]int{})
}

func TestExampleTwo(t *testing.T) {
	w := begun(t, setup())
	before := all(w)
	seen(t, w, delivers(1, 1, 5), failed(api.ErrNone))
	for _, s := range []world.Step{delivers(1, 3, 0), {}, {Kind: 23}, kicks(3)} {
		refused(t, w, s, api.ErrStep)
	}
	if all(w) != before {
		t.Error("P2003: a step that is refused has changed something")
	}
}

// refused: a step that is none.
func refused(t *testing.T, w *world.World, s world.Step, want api.Errno) {
	t.Helper()
	if x, e := w.Do(s); e != want || !same(x, world.Seen{}) {
		t.Fatalf("P2003: Do(%+v) = %+v, %v, want %v", s, x, e, want)
	}
}

func TestExampleThree(t *testing.T) {
	w := begun(t, setup())
	steps(t, w, sends(1, 3, 100, 50, "abc"))
	was := w.Way(1, 1)[0]
	seen(t, w, turns(1, 1, 0, 9, 7), world.Seen{})
	if !bytes.Equal(w.Way(1, 1)[0], octet.Burst(was, 9, 7)) {
		t.Error("P2003: Turn turns other bits")
	}
	seen(t, w, turns(1, 1, 0, 9, 7), failed(api.ErrTwice))
	seen(t, w, delivers(1, 1, 0), failed(api.ErrSeal))
	lie(t, w, [4]int{})
}

func TestExampleFour(t *testing.T) {
	w := begun(t, setup())
	seen(t, w, cuts(1, 0), world.Seen{})
	seen(t, w, sends(1, 3, 100, 50, "abc"), failed(api.ErrPower))
	if w.Node(1).Up() || !w.Node(2).Up() {
		t.Fatal("P2003: the other one has fallen")
	}
	seen(t, w, sends(1, 3, 100, 50, "abc"), failed(api.ErrDown))
	seen(t, w, restarts(1), failed(api.ErrPower))
	seen(t, w, crashes(1), world.Seen{})
	seen(t, w, restarts(1), world.Seen{})
	seen(t, w, restarts(1), failed(api.ErrUp))
	lie(t, w, [4]int{})
}

func TestExampleFive(t *testing.T) {
	w := begun(t, setup())
	steps(t, w, sends(1, 3, 100, 50, "abc"))
	once := unit(t, w, 1, 1, 0)
	seen(t, w, ticks(10), sent(1))
	lie(t, w, [4]int{1, 1, 0, 0})
	if again := unit(t, w, 1, 2, 0); again.Path != api.Freight || once.Path != api.Express || !bytes.Equal(again.Data, once.Data) {
		t.Errorf("P2003: by freight goes %+v, and by express %+v", again, once)
	}
}

func TestExampleSix(t *testing.T) {
	s := setup()
	s.Start = top
	w := fresh(t, s)
	for _, n := range []uint64{0, 1, math.MaxUint64} {
		seen(t, w, ticks(n), world.Seen{})
		if w.Now() != top {
			t.Errorf("P2003: behind a Tick of %d the clock is at %d", n, w.Now())
		}
	}
}

// TestNoneMade: of a nil world, and of one that New did not make.
func TestNoneMade(t *testing.T) {
	for _, w := range []*world.World{nil, {}, new(world.World)} {
		for kind := -1; kind <= 24; kind++ {
			for n := range 4 {
				refused(t, w, world.Step{Kind: kind, Node: n, Way: 1, Ticks: 5, Choices: []int{1}}, api.ErrArg)
				refused(t, w, world.Step{Kind: kind, Node: n, Way: 9}, api.ErrArg)
			}
		}
		if w.Now() != 0 {
			t.Errorf("P2001: Now = %d", w.Now())
		}
		for n := -1; n <= 4; n++ {
			if w.Node(n) != nil || len(w.Way(n, 1))+len(w.Way(n, 2))+len(w.Way(1, n)) > 0 {
				t.Errorf("P2001: a world that is none has a node or datagrams")
			}
		}
	}
}

func TestNew(t *testing.T) {
	for _, x := range []struct {
		what   string
		change func(s *world.Setup)
		want   api.Errno
	}{
		{"nothing", func(s *world.Setup) {}, api.OK},
		{"Room 0", func(s *world.Setup) { s.Room = 0 }, api.ErrArg},
		{"Room -1", func(s *world.Setup) { s.Room = -1 }, api.ErrArg},
		{"Room MinInt", func(s *world.Setup) { s.Room = math.MinInt }, api.ErrArg},
		{"Room 1", func(s *world.Setup) { s.Room = 1 }, api.OK},
		{"Room 1024", func(s *world.Setup) { s.Room = 1024 }, api.OK},
		{"Room 1025", func(s *world.Setup) { s.Room = 1025 }, api.ErrArg},
		{"Room MaxInt", func(s *world.Setup) { s.Room = math.MaxInt }, api.ErrArg},
		{"Start 0", func(s *world.Setup) { s.Start = 0 }, api.OK},
		{"Start MaxNumber", func(s *world.Setup) { s.Start = top }, api.OK},
		{"Start above it", func(s *world.Setup) { s.Start = top + 1 }, api.ErrArg},
		{"Start MaxUint64", func(s *world.Setup) { s.Start = math.MaxUint64 }, api.ErrArg},
		{"Sectors 83", func(s *world.Setup) { s.Sectors = 83 }, api.OK},
		{"Sectors 82", func(s *world.Setup) { s.Sectors = 82 }, api.ErrArg},
		{"Sectors 0", func(s *world.Setup) { s.Sectors = 0 }, api.ErrArg},
		{"Sectors -1", func(s *world.Setup) { s.Sectors = -1 }, api.ErrArg},
		{"Sectors 65536", func(s *world.Setup) { s.Sectors = 65536 }, api.OK},
		{"Sectors 65537", func(s *world.Setup) { s.Sectors = 65537 }, api.ErrArg},
		{"no Config", func(s *world.Setup) { s.Config = api.Config{} }, api.ErrArg},
		{"Mtu 15", func(s *world.Setup) { s.Config.Mtu = 15 }, api.ErrArg},
		{"Inbox below Window", func(s *world.Setup) { s.Config.Inbox = 1 }, api.ErrArg},
	} {
		s := setup()
		x.change(&s)
		w, e := world.New(s)
		if e != x.want || (w != nil) != (e == api.OK) {
			t.Errorf("P2002: New with %s = %v, %v, want %v", x.what, w, e, x.want)
		}
		if e == api.OK {
			isNew(t, w, s)
		}
		if l, w, e := world.Play(s, nil); e != x.want || (w != nil) != (e == api.OK) || len(l) > 0 {
			t.Errorf("P2005: Play with %s = %v, %v, %v, want %v", x.what, l, w, e, x.want)
		}
	}
}

// isNew: both nodes up, as node.New makes them, the ways empty, the clock at its start.
func isNew(t *testing.T, w *world.World, s world.Setup) {
	t.Helper()
	if w.Now() != s.Start || onWays(w) != [4]int{} {
		t.Errorf("P2002: a new world's clock is at %d, and on its ways are %v", w.Now(), onWays(w))
	}
	for n := 1; n <= 2; n++ {
		x, _ := node.New(s.Config, uint64(n), uint64(3-n), s.Sectors, s.Start)
		y := w.Node(n)
		if !y.Up() || y.Disk().Sectors() != s.Sectors || fmt.Sprint(y.Service().State()) != fmt.Sprint(x.Service().State()) || tells(y.Service()) != tells(x.Service()) {
			t.Errorf("P2002: node %d of a new world is %+v", n, y.Service().State())
		}
		if !bytes.Equal(x.Disk().Image(), y.Disk().Image()) {
			t.Errorf("P2002: node %d of a new world has another disk", n)
		}
	}
	if w.Node(1).Disk() == w.Node(2).Disk() {
		t.Error("P2002: both nodes have one disk")
	}
}

// TestConfig: both nodes, in each life, go by the setup's config.
func TestConfig(t *testing.T) {
	s := setup()
	s.Config = api.Config{Mtu: 16, AckTime: 3, RetryTime: 5, Retries: 1, Window: 1, Inbox: 1}
	for n := 1; n <= 2; n++ {
		w := fresh(t, s)
		steps(t, w, begins(n, 0))
		seen(t, w, sends(n, 0, 100, 500, "0123456789"), world.Seen{Key: key(0, 0), Sent: 3})
		seen(t, w, ticks(2), world.Seen{})
		seen(t, w, ticks(1), sent(3))
		seen(t, w, ticks(4), world.Seen{})
		seen(t, w, ticks(1), sent(3))
		seen(t, w, ticks(5), world.Seen{}) // it rests
		seen(t, w, kicks(3-n), world.Seen{})
		seen(t, w, kicks(n), world.Seen{Sent: 3, Lost: 0})
		steps(t, w, crashes(n))
		seen(t, w, restarts(n), world.Seen{Sent: 3, Lost: 0})
		seen(t, w, sends(n, 0, 90, 500, ""), world.Seen{Key: key(0, 1)}) // the window is full
	}
}

// TestWhoHears: what goes away from a node comes to the other one, and is from it; Sends of both.
func TestWhoHears(t *testing.T) {
	for n := 1; n <= 2; n++ {
		w := fresh(t, setup())
		other := 3 - n
		steps(t, w, begins(n, 3), listens(other, 3, quota(4, 1000)))
		seen(t, w, sends(n, 3, 100, 50, "abc"), world.Seen{Key: key(3, 0), Sent: 1})
		seen(t, w, sends(other, 3, 100, 50, "abc"), failed(api.ErrStream))
		if len(w.Way(n, 1)) != 1 || len(w.Way(other, 1)) != 0 {
			t.Fatalf("P2003: on the ways are %v", onWays(w))
		}
		seen(t, w, delivers(other, 1, 0), failed(api.ErrNone))
		seen(t, w, delivers(n, 1, 0), world.Seen{Shown: []api.Frame{frame(3, 100, 0, 50, "abc")}, Sent: 1})
		if frames, _ := w.Node(other).Service().DB().Count(3); frames != 1 || len(w.Way(other, 2)) != 1 {
			t.Fatalf("P2003: %d frames are stored; on the ways are %v", frames, onWays(w))
		}
		seen(t, w, delivers(other, 2, 0), told(n, key(3, 0), api.Stored))
		if l := w.Node(n).Service().Backlog().Keys(); len(l) != 0 {
			t.Errorf("P2003: in the backlog are %v", l)
		}
	}
}

// kinds: each kind of step, with the fields that it names alone, and whether it has a node and a way.
func kinds() []world.Step {
	return []world.Step{
		ticks(3), listens(1, 4, quota(2, 9)), unlistens(2, 3), begins(2, 4), ceases(1, 3), sends(1, 3, 101, 20, "more"), cancels(1, 3, 0), kicks(1),
		delivers(1, 1, 1), drops(1, 1, 0), doubles(1, 1, 1), turns(1, 1, 0, 4, 3), cuts(1, 2), crashes(1, 1, 0), restarts(2),
		opens(2, 3), closes(2, 1), seeks(2, 1, 100), nexts(2, 1), prevs(2, 1), rewinds(2, 1), gaps(2, 3, 100, 200),
	}
}

func hasNode(kind int) bool { return kind != world.Tick }

func hasWay(kind int) bool {
	return slices.Contains([]int{world.Deliver, world.Drop, world.Double, world.Turn}, kind)
}

// TestNumbers: each kind has the table's number.
func TestNumbers(t *testing.T) {
	for i, s := range kinds() {
		if s.Kind != i+1 {
			t.Errorf("P2003: the kind of %+v is %d, want %d", s, s.Kind, i+1)
		}
	}
	if len(kinds()) != 22 || world.Gaps != 22 {
		t.Errorf("P2003: Gaps is %d", world.Gaps)
	}
}

// ready: a world in which each of the kinds comes to something.
func ready(t *testing.T) *world.World {
	t.Helper()
	w := begun(t, setup())
	steps(t, w, sends(1, 3, 100, 50, "one"), delivers(1, 1, 0), sends(1, 3, 101, 50, "two"), sends(1, 3, 102, 50, "three"), sends(1, 3, 103, 50, "four"), delivers(1, 1, 2),
		opens(2, 3), nexts(2, 1), nexts(2, 1))
	return w
}

// TestNoStep: kinds that are none, nodes and ways that are none, where the kind has them.
func TestNoStep(t *testing.T) {
	w := ready(t)
	before := all(w)
	wrong := []int{0, 3, 4, -1, -2, math.MaxInt, math.MinInt}
	for _, kind := range append([]int{23, 24, 255, 257}, wrong...) {
		if kind != 3 && kind != 4 {
			refused(t, w, world.Step{Kind: kind, Node: 1, Way: 1}, api.ErrStep)
			refused(t, w, world.Step{Kind: kind, Node: 3, Way: 3}, api.ErrStep)
		}
	}
	for _, s := range kinds() {
		for _, n := range wrong {
			x := s
			x.Node = n
			if hasNode(s.Kind) {
				refused(t, w, x, api.ErrStep)
			}
			if x := s; hasWay(s.Kind) {
				x.Way = n
				refused(t, w, x, api.ErrStep)
				x.Node = n
				refused(t, w, x, api.ErrStep)
			}
		}
	}
	if all(w) != before {
		t.Error("P2003: a step that is refused has changed something")
	}
}

// TestFieldsNotNamed: what a kind does not name is not looked at.
func TestFieldsNotNamed(t *testing.T) {
	for _, s := range kinds() {
		w, v := ready(t), ready(t)
		x := world.Step{
			Kind: s.Kind, Node: -5, Stream: 77, Time: math.MaxUint64, Life: math.MaxUint64, Data: make([]byte, 9999), Seq: math.MaxUint64, Quota: quota(-1, -1), Way: -7,
			Place: -1, At: math.MinInt, Mask: math.MaxUint32, Ticks: math.MaxUint64, Choices: []int{-1, -1, -1}, Cursor: -4, To: math.MaxUint64,
		}
		if hasNode(s.Kind) {
			x.Node = s.Node
		}
		switch s.Kind {
		case world.Tick:
			x.Ticks = s.Ticks
		case world.Listen:
			x.Stream, x.Quota = s.Stream, s.Quota
		case world.Unlisten, world.Begin, world.Cease, world.OpenCursor:
			x.Stream = s.Stream
		case world.Send:
			x.Stream, x.Time, x.Life, x.Data = s.Stream, s.Time, s.Life, s.Data
		case world.Cancel:
			x.Stream, x.Seq = s.Stream, s.Seq
		case world.Deliver, world.Drop, world.Double:
			x.Way, x.Place = s.Way, s.Place
		case world.Turn:
			x.Way, x.Place, x.At, x.Mask = s.Way, s.Place, s.At, s.Mask
		case world.Cut:
			x.At = s.At
		case world.Crash:
			x.Choices = s.Choices
		case world.CloseCursor, world.Next, world.Prev, world.Rewind:
			x.Cursor = s.Cursor
		case world.Seek:
			x.Cursor, x.Time = s.Cursor, s.Time
		case world.Gaps:
			x.Stream, x.Time, x.To = s.Stream, s.Time, s.To
		}
		want := done(t, w, s)
		seen(t, v, x, want)
		if all(w) != all(v) {
			t.Errorf("P2003: behind %+v there is\n%s\nwant\n%s", x, all(v), all(w))
		}
	}
}

// TestEachKind: what each kind comes to, and the errors of its call.
func TestEachKind(t *testing.T) {
	w := fresh(t, setup())
	for _, x := range []struct {
		step world.Step
		want world.Seen
	}{
		{begins(1, 3), world.Seen{}}, {begins(1, 3), failed(api.ErrTwice)}, {begins(1, 8), failed(api.ErrArg)}, {begins(2, 7), world.Seen{}}, {begins(1, 4), world.Seen{}},
		{ceases(2, 3), failed(api.ErrStream)}, {ceases(1, 4), world.Seen{}}, {ceases(1, -1), failed(api.ErrArg)},
		{listens(2, 3, quota(8, 1000)), world.Seen{}}, {listens(2, 3, quota(8, 1000)), failed(api.ErrTwice)}, {listens(1, 3, quota(0, 1)), failed(api.ErrQuota)},
		{listens(1, 7, quota(1, 1)), world.Seen{}}, {unlistens(1, 7), world.Seen{}}, {unlistens(1, 7), failed(api.ErrStream)}, {unlistens(1, 8), failed(api.ErrArg)},
		{sends(1, 4, 100, 50, ""), failed(api.ErrStream)}, {sends(1, 3, 50, 50, ""), failed(api.ErrExpired)}, {sends(1, 3, 100, 50, strings.Repeat("x", 513)), failed(api.ErrSize)},
		{sends(1, 3, 100, top+1, ""), failed(api.ErrArg)}, {sends(1, 3, 100, 50, "a"), world.Seen{Key: key(3, 0), Sent: 1}},
		{sends(1, 3, 100, 50, "b"), world.Seen{Key: key(3, 1), Sent: 1}}, {sends(1, 3, 99, 50, "c"), world.Seen{Key: key(3, 2), Sent: 1}},
		{sends(2, 7, 100, 50, "z"), world.Seen{Key: key(7, 0), Sent: 1}}, {delivers(2, 1, 0), sent(1)}, {delivers(1, 2, 1), told(2, key(7, 0), api.Unheard)},
		{doubles(1, 1, 2), failed(api.ErrNone)}, {doubles(1, 1, 0), world.Seen{}}, {drops(1, 1, -1), failed(api.ErrNone)}, {drops(1, 1, 0), world.Seen{}},
		{turns(1, 1, 2, 0, 1), failed(api.ErrNone)}, {turns(1, 1, 0, 0, 0), failed(api.ErrArg)}, {turns(1, 1, 1, 3, 1), world.Seen{}}, {turns(1, 1, 1, 3, 1), failed(api.ErrTwice)},
		{delivers(1, 1, 1), failed(api.ErrSeal)}, {delivers(1, 1, 0), world.Seen{Shown: []api.Frame{frame(3, 100, 1, 50, "b")}, Sent: 1}}, {delivers(1, 1, 0), failed(api.ErrNone)},
		{delivers(1, 2, 0), sent(1)}, {delivers(2, 2, 0), told(1, key(3, 1), api.Stored)},
		{cancels(1, 3, 1), failed(api.ErrNone)}, {cancels(2, 3, 0), failed(api.ErrNone)}, {cancels(1, 3, 0), world.Seen{Done: told(1, key(3, 0), api.Cancelled).Done, Sent: 1}},
		{kicks(1), world.Seen{}}, {kicks(2), world.Seen{}},
		{opens(2, 8), failed(api.ErrArg)}, {opens(2, 3), world.Seen{Cursor: 1}}, {opens(2, 3), world.Seen{Cursor: 2}}, {opens(1, 0), world.Seen{Cursor: 1}},
		{nexts(2, 3), failed(api.ErrCursor)}, {nexts(2, 1), world.Seen{Frame: frame(3, 99, 2, 50, "c")}}, {nexts(2, 1), world.Seen{Frame: frame(3, 100, 1, 50, "b")}}, {nexts(2, 1), failed(api.ErrNone)},
		{prevs(2, 1), world.Seen{Frame: frame(3, 99, 2, 50, "c")}}, {prevs(2, 1), failed(api.ErrNone)}, {prevs(2, 0), failed(api.ErrCursor)}, {nexts(1, 1), failed(api.ErrNone)},
		{seeks(2, 2, 100), world.Seen{Frame: frame(3, 100, 1, 50, "b")}}, {seeks(2, 2, 101), failed(api.ErrNone)}, {seeks(2, 9, 0), failed(api.ErrCursor)},
		{rewinds(2, 2), world.Seen{}}, {prevs(2, 2), failed(api.ErrNone)}, {rewinds(2, 9), failed(api.ErrCursor)}, {closes(2, 1), world.Seen{}}, {closes(2, 1), failed(api.ErrCursor)},
		{gaps(2, 8, 0, 1), failed(api.ErrArg)}, {gaps(2, 3, 0, top), world.Seen{}}, {sends(1, 3, 101, 50, ""), world.Seen{Key: key(3, 3), Sent: 1}}, {sends(1, 3, 102, 50, ""), world.Seen{Key: key(3, 4), Sent: 1}},
		{delivers(1, 1, 1), world.Seen{Shown: []api.Frame{frame(3, 102, 4, 50, "")}, Sent: 1}}, {gaps(2, 3, 0, top), world.Seen{Gaps: []api.Gap{{From: 3, To: 3}}}}, {gaps(2, 3, 0, 101), world.Seen{}}, {gaps(2, 3, 101, top), world.Seen{}},
		{cuts(2, -1), world.Seen{}}, {cuts(2, math.MaxInt), world.Seen{}}, {restarts(1), failed(api.ErrUp)}, {crashes(2, 5), world.Seen{}}, {crashes(2), world.Seen{}}, {restarts(2), world.Seen{}}, {nexts(2, 2), failed(api.ErrCursor)},
		{ticks(100), world.Seen{Done: slices.Concat(told(1, key(3, 2), api.Expired).Done, told(1, key(3, 3), api.Expired).Done, told(1, key(3, 4), api.Expired).Done), Sent: 3}},
	} {
		seen(t, w, x.step, x.want)
	}
}

// TestAtTheClock: a step is done at the world's clock, each of those to which a time is told.
func TestAtTheClock(t *testing.T) {
	w := begun(t, setup())
	steps(t, w, ticks(40), crashes(2), restarts(2))
	for n := 1; n <= 2; n++ {
		if s := w.Node(n).Service().State(); s.Now != 140 {
			t.Errorf("P2003: the clock of node %d is at %d", n, s.Now)
		}
	}
	seen(t, w, sends(1, 3, 90, 50, ""), failed(api.ErrExpired))
	seen(t, w, sends(1, 3, 90, 51, ""), world.Seen{Key: key(3, 0), Sent: 1})
	steps(t, w, crashes(1), ticks(1)) // it is down meanwhile
	seen(t, w, restarts(1), sent(1))
	if s := w.Node(1).Service().State(); s.Now != 141 {
		t.Errorf("P2003: the clock of a new life is at %d", s.Now)
	}
	seen(t, w, delivers(1, 2, 0), sent(1))
	if u := unit(t, w, 2, 2, 0); u.Code != api.TooLate {
		t.Errorf("P2003: at 141 a frame that is over since then is reported as %d", u.Code)
	}
	seen(t, w, ticks(0), world.Seen{Done: told(1, key(3, 0), api.Expired).Done, Sent: 1})
}

// TestTicks: by so many ticks, whatever they are.
func TestTicks(t *testing.T) {
	w := fresh(t, setup())
	for _, x := range []struct{ ticks, want uint64 }{{0, 100}, {1, 101}, {899, 1000}, {top - 1001, top - 1}, {0, top - 1}, {1, top}, {1, top}} {
		seen(t, w, ticks(x.ticks), world.Seen{})
		if w.Now() != x.want {
			t.Errorf("P2003: behind a Tick of %d the clock is at %d, want %d", x.ticks, w.Now(), x.want)
		}
	}
	for _, far := range []uint64{top, top + 1, math.MaxUint64, math.MaxUint64 - 99} {
		w := fresh(t, setup())
		seen(t, w, ticks(far), world.Seen{})
		if w.Now() != top || w.Node(1).Service().State().Now != top || w.Node(2).Service().State().Now != top {
			t.Errorf("P2003: behind a Tick of %d the clock is at %d", far, w.Now())
		}
	}
}

// both: a world in which each node has a frame of ten ticks' worth and one that is sent.
func both(t *testing.T) *world.World {
	t.Helper()
	w := fresh(t, setup())
	for n := 1; n <= 2; n++ {
		steps(t, w, begins(n, 3), sends(n, 3, 100, 9, "short"), sends(n, 3, 100, 90, "long"))
	}
	return w
}

// TestTickOfBoth: node 1 first; what both did stands in one answer; the first error is the answer's; who is down has no tick.
func TestTickOfBoth(t *testing.T) {
	over := func(nodes ...int) (l []world.Told) {
		for _, n := range nodes {
			l = append(l, told(n, key(3, 0), api.Expired).Done...)
		}
		return l
	}
	w := both(t)
	seen(t, w, ticks(10), world.Seen{Done: over(1, 2), Sent: 4})
	for n := 1; n <= 2; n++ {
		if len(w.Way(n, 2)) != 2 || unit(t, w, n, 2, 0).Kind != api.Cancel || unit(t, w, n, 2, 1).Kind != api.Data {
			t.Errorf("P2003: on the ways are %v", onWays(w))
		}
	}

	for n := 1; n <= 2; n++ {
		w := both(t)
		steps(t, w, cuts(n, 0))
		seen(t, w, ticks(10), world.Seen{Error: api.ErrPower, Done: over(3 - n), Sent: 2})
		if w.Node(n).Up() || !w.Node(3-n).Up() || len(w.Way(n, 2)) != 0 || len(w.Way(3-n, 2)) != 2 || w.Now() != 110 {
			t.Errorf("P2003: behind a Tick in which node %d fell on the ways are %v", n, onWays(w))
		}
		seen(t, w, ticks(0), world.Seen{})
	}

	w = both(t)
	steps(t, w, cuts(1, 0), cuts(2, 1))
	seen(t, w, ticks(10), failed(api.ErrPower))
	if w.Node(1).Up() || w.Node(2).Up() {
		t.Error("P2003: a node is up still")
	}

	w = both(t)
	steps(t, w, crashes(1))
	seen(t, w, ticks(10), world.Seen{Done: over(2), Sent: 2})
	steps(t, w, crashes(2))
	seen(t, w, ticks(10), world.Seen{})
	if w.Now() != 120 || w.Node(1).Up() || w.Node(2).Up() {
		t.Errorf("P2003: the clock is at %d, and was 110 while both are down", w.Now())
	}
}

// TestDown: each call of a node that is down; its datagrams go on; what comes to it is lost.
func TestDown(t *testing.T) {
	w := ready(t)
	steps(t, w, crashes(1), crashes(2))
	for _, s := range kinds() {
		for n := 1; n <= 2; n++ {
			s.Node = n
			switch s.Kind {
			case world.Tick, world.Deliver, world.Drop, world.Double, world.Turn, world.Cut, world.Crash, world.Restart:
			default:
				seen(t, w, s, failed(api.ErrDown))
			}
		}
	}
	lie(t, w, [4]int{2, 0, 0, 2})
	seen(t, w, doubles(1, 1, 0), world.Seen{})
	seen(t, w, turns(1, 1, 1, 2, 1), world.Seen{})
	seen(t, w, delivers(1, 1, 1), world.Seen{}) // a spoilt one: nobody hears it
	seen(t, w, delivers(1, 1, 0), world.Seen{})
	seen(t, w, delivers(2, 2, 1), world.Seen{})
	seen(t, w, drops(1, 1, 0), world.Seen{})
	seen(t, w, delivers(1, 1, 0), failed(api.ErrNone))
	lie(t, w, [4]int{0, 0, 0, 1})
	steps(t, w, restarts(2))
	seen(t, w, delivers(2, 2, 0), world.Seen{}) // node 1 is down still
	if frames, _ := w.Node(2).Service().DB().Count(3); frames != 2 {
		t.Errorf("P2003: %d frames are there", frames)
	}
}

// TestFallInDeliver: the one that hears falls; the datagram is gone, and nothing comes of it.
func TestFallInDeliver(t *testing.T) {
	for fuse := range 2 {
		w := begun(t, setup())
		steps(t, w, sends(1, 3, 100, 50, "abc"), doubles(1, 1, 0), cuts(2, fuse))
		seen(t, w, delivers(1, 1, 0), failed(api.ErrPower))
		if w.Node(2).Up() || !w.Node(1).Up() {
			t.Fatal("P2003: the one that sent it has fallen")
		}
		lie(t, w, [4]int{1, 0, 0, 0})
		steps(t, w, crashes(2), restarts(2))
		seen(t, w, delivers(1, 1, 0), world.Seen{Shown: []api.Frame{frame(3, 100, 0, 50, "abc")}, Sent: 1})
	}
}

// TestFullWays: what finds its way full is gone, and counted; the other ways have their own room.
func TestFullWays(t *testing.T) {
	s := setup()
	s.Room, s.Config.Mtu = 2, 16
	w := begun(t, s)
	seen(t, w, sends(1, 3, 100, 50, "0123456789"), world.Seen{Key: key(3, 0), Sent: 2, Lost: 1})
	for i := range 2 {
		if u := unit(t, w, 1, 1, i); u.Index != i || u.Count != 3 {
			t.Errorf("P2003: at the place %d is %+v", i, u)
		}
	}
	seen(t, w, doubles(1, 1, 0), failed(api.ErrFull))
	seen(t, w, sends(1, 3, 100, 50, "0123456789"), world.Seen{Key: key(3, 1), Lost: 3})
	seen(t, w, drops(1, 1, 0), world.Seen{})
	seen(t, w, sends(1, 3, 100, 50, "0123456789"), world.Seen{Key: key(3, 2), Sent: 1, Lost: 2})
	if u := unit(t, w, 1, 1, 1); u.Session != 3 || u.Index != 0 {
		t.Errorf("P2003: at the end of the way is %+v", u)
	}
	seen(t, w, sends(1, 3, 90, 50, "0123456789"), world.Seen{Key: key(3, 3), Sent: 2, Lost: 1})
	lie(t, w, [4]int{2, 2, 0, 0})
	for range 2 { // the report finds room on the way away from node 2, but for a third one
		seen(t, w, delivers(1, 2, 0), sent(1))
	}
	steps(t, w, crashes(1))
	seen(t, w, restarts(1), world.Seen{Sent: 2, Lost: 4}) // two sessions begin; the window is full
	seen(t, w, delivers(1, 2, 0), world.Seen{Lost: 1})
	lie(t, w, [4]int{2, 1, 0, 2})
	steps(t, w, ticks(19))
	seen(t, w, ticks(1), world.Seen{Sent: 1, Lost: 5})
	seen(t, w, cancels(1, 3, 0), world.Seen{Done: told(1, key(3, 0), api.Cancelled).Done, Lost: 4})
	lie(t, w, [4]int{2, 2, 0, 2})
}

// TestWhichWay: data by its path, all else by freight, each at the way's end.
func TestWhichWay(t *testing.T) {
	s := setup()
	s.Config.Mtu = 16
	w := begun(t, s)
	steps(t, w, begins(2, 5), sends(2, 5, 100, 90, "0123456789"))
	steps(t, w, sends(1, 3, 100, 50, "0123456789"), sends(1, 3, 99, 50, "0123456789"), cancels(1, 3, 0), cancels(1, 3, 1))
	lie(t, w, [4]int{3, 5, 3, 0})
	for i, kind := range []int{api.Data, api.Data, api.Data, api.Cancel, api.Cancel} {
		u := unit(t, w, 1, 2, i)
		if u.Kind != kind || kind == api.Data && (u.Path != api.Freight || u.Index != i) || kind == api.Cancel && u.Session != uint64(i-2) {
			t.Errorf("P2003: at the place %d of freight is %+v", i, u)
		}
	}
	for i := range 3 {
		if u := unit(t, w, 1, 1, i); u.Path != api.Express || u.Index != i {
			t.Errorf("P2003: at the place %d of express is %+v", i, u)
		}
	}
	seen(t, w, delivers(1, 2, 0), sent(1))
	seen(t, w, delivers(1, 2, 1), sent(1)) // the segment with the index 2
	lie(t, w, [4]int{3, 3, 3, 2})
	if u := unit(t, w, 2, 2, 1); u.Kind != api.Report || !slices.Equal(u.Got, []api.Range{{From: 0, To: 1}, {From: 2, To: 3}}) {
		t.Errorf("P2003: node 2 answers %+v", u)
	}
}

// TestRestLeavesNothing: what rests is told by the node's service alone.
func TestRestLeavesNothing(t *testing.T) {
	s := setup()
	s.Config.Retries = 0
	w := begun(t, s)
	seen(t, w, sends(1, 3, 100, 500, ""), world.Seen{Key: key(3, 0), Sent: 1})
	seen(t, w, ticks(10), sent(1))
	seen(t, w, ticks(20), world.Seen{})
	if l := w.Node(1).Service().State().Resting; !slices.Equal(l, []api.Key{key(3, 0)}) {
		t.Fatalf("P1707: there rest %v", l)
	}
	seen(t, w, kicks(1), sent(1))
}

// TestLooks: the same nodes each time, through all falls; nil and none else.
func TestLooks(t *testing.T) {
	w := ready(t)
	one, two := w.Node(1), w.Node(2)
	if one == nil || two == nil || one == two {
		t.Fatalf("P2004: the nodes are %p and %p", one, two)
	}
	for _, s := range kinds() {
		done(t, w, s)
		if w.Node(1) != one || w.Node(2) != two {
			t.Errorf("P2004: behind %+v the nodes are other ones", s)
		}
	}
	for _, n := range []int{0, 3, -1, math.MaxInt, math.MinInt} {
		if w.Node(n) != nil || len(w.Way(n, 1))+len(w.Way(n, 2))+len(w.Way(1, n))+len(w.Way(2, n))+len(w.Way(n, n)) > 0 {
			t.Errorf("P2004: there is something of %d", n)
		}
	}
	if u := unit(t, ready(t), 1, 1, 0); u.Session != 2 {
		t.Errorf("P2004: the first datagram is of the session %d", u.Session)
	}
}

// TestPlay: what each step came to, as if they were done one by one; nothing but the error, if one is none.
func TestPlay(t *testing.T) {
	script := []world.Step{
		begins(1, 3), listens(2, 3, quota(4, 1000)), sends(1, 3, 100, 50, "abc"), delivers(1, 1, 0), delivers(1, 1, 0), delivers(2, 2, 0), crashes(1), kicks(1), restarts(1), ticks(50),
	}
	w := fresh(t, setup())
	var want []world.Seen
	for _, s := range script {
		want = append(want, done(t, w, s))
	}
	for n := range len(script) + 1 {
		l, v, e := world.Play(setup(), script[:n])
		if e != api.OK || v == nil || !slices.EqualFunc(l, want[:n], same) {
			t.Fatalf("P2005: Play of %d steps = %+v, %v, want %+v", n, l, e, want[:n])
		}
		if n == len(script) && all(v) != all(w) {
			t.Errorf("P2005: behind Play there is\n%s\nwant\n%s", all(v), all(w))
		}
		for _, s := range []world.Step{{}, {Kind: 23}, kicks(3), delivers(1, 0, 0)} {
			broken := slices.Insert(slices.Clone(script), n, s)
			if l, v, e := world.Play(setup(), broken); e != api.ErrStep || v != nil || len(l) > 0 {
				t.Errorf("P2005: Play with %+v at %d = %+v, %v, %v", s, n, l, v, e)
			}
		}
	}
	bad := setup()
	bad.Room = 0
	if l, v, e := world.Play(bad, []world.Step{{}}); e != api.ErrArg || v != nil || len(l) > 0 {
		t.Errorf("P2005: Play in no world = %+v, %v, %v", l, v, e)
	}
}
