package node_test

import (
	"bytes"
	"fmt"
	"math"
	"slices"
	"strings"
	"testing"

	"halyard/api"
	"halyard/bundle"
	"halyard/node"
	"halyard/pdu"
	"halyard/service"
	"halyard/table"
)

const top = api.MaxNumber

func config() api.Config {
	return api.Config{Mtu: 64, AckTime: 10, RetryTime: 20, Retries: 2, Window: 2, Inbox: 4}
}

// fresh: the node 1 on a disk of so many sectors, at time 100.
func fresh(t *testing.T, sectors int) *node.Node {
	t.Helper()
	n, e := node.New(config(), 1, 2, sectors, 100)
	if n == nil || e != api.OK {
		t.Fatalf("P1902: New = %v, %v", n, e)
	}
	return n
}

// begun: one that has begun stream 3 and listens to stream 5.
func begun(t *testing.T, sectors int) *node.Node {
	t.Helper()
	n := fresh(t, sectors)
	is(t, "P1903: Begin", n.Begin(3), api.OK)
	is(t, "P1903: Listen", n.Listen(5, api.Quota{Count: 3, Bytes: 500}), api.OK)
	return n
}

func is(t *testing.T, what string, got, want api.Errno) {
	t.Helper()
	if got != want {
		t.Fatalf("%s = %v, want %v", what, got, want)
	}
}

func key(stream int, seq uint64) api.Key { return api.Key{Stream: stream, Seq: seq} }

func frame(stream int, time, seq, life uint64, data string) api.Frame {
	return api.Frame{Stream: stream, Stamp: api.Stamp{Time: time, Seq: seq}, Life: life, Data: []byte(data)}
}

// blockOf: of a frame, from a node to another one.
func blockOf(t *testing.T, f api.Frame, from, to uint64, newest bool) []byte {
	t.Helper()
	b, e := bundle.Wrap(f, from, to, newest)
	is(t, "P206: Wrap", e, api.OK)
	block, e := bundle.Encode(b)
	is(t, "P203: Encode", e, api.OK)
	return block
}

func encode(t *testing.T, u api.Unit) []byte {
	t.Helper()
	b, e := pdu.Encode(u)
	is(t, "P302: Encode", e, api.OK)
	return b
}

// theirs: a datagram of the other node, in its epoch 9: a whole frame of its stream 5 that is the newest one.
func theirs(t *testing.T, session, time uint64, data string) []byte {
	t.Helper()
	block := blockOf(t, frame(5, time, session, 50, data), 2, 1, true)
	return encode(t, api.Unit{Kind: api.Data, Epoch: 9, Session: session, Path: api.Express, Count: 1, Data: block})
}

func reported(t *testing.T, epoch, session uint64, code int) []byte {
	t.Helper()
	return encode(t, api.Unit{Kind: api.Report, Epoch: epoch, Session: session, Code: code})
}

func sameUnit(a, b api.Unit) bool {
	return a.Kind == b.Kind && a.Epoch == b.Epoch && a.Session == b.Session && a.Path == b.Path && a.Index == b.Index && a.Count == b.Count &&
		bytes.Equal(a.Data, b.Data) && a.Code == b.Code && slices.Equal(a.Got, b.Got)
}

func sameFrame(a, b api.Frame) bool {
	return a.Stream == b.Stream && a.Stamp == b.Stamp && a.Life == b.Life && bytes.Equal(a.Data, b.Data)
}

func sameEffect(x, y service.Effect) bool {
	return slices.EqualFunc(x.Units, y.Units, sameUnit) && slices.EqualFunc(x.Shown, y.Shown, sameFrame) && slices.Equal(x.Done, y.Done) && slices.Equal(x.Rest, y.Rest)
}

func isNone(x service.Effect) bool { return sameEffect(x, service.Effect{}) }

// tells: all that a service's backlog and database tell.
func tells(s *service.Service) string {
	var b strings.Builder
	l, db := s.Backlog(), s.DB()
	fmt.Fprintln(&b, "begun", l.Streams())
	for _, k := range l.Keys() {
		f, _ := l.Get(k)
		fmt.Fprintln(&b, "kept", f)
	}
	for i := range api.MaxStreams {
		newest, some := l.Newest(i)
		q, heard := db.Quota(i)
		high, shown := db.High(i)
		floor, rolled := db.Floor(i)
		fmt.Fprintln(&b, i, l.Next(i), newest, some, q, heard, high, shown, floor, rolled)
		for f := range db.Frames(i) {
			fmt.Fprintln(&b, "has", f)
		}
	}
	return b.String()
}

// isUp, isDown: all that is there then, and nothing else.
func isUp(t *testing.T, n *node.Node) {
	t.Helper()
	if !n.Up() || n.Service() == nil || n.Player() == nil || n.Disk() == nil {
		t.Fatalf("P1905: a node that is up has %v, %p, %p, %p", n.Up(), n.Service(), n.Player(), n.Disk())
	}
}

func isDown(t *testing.T, n *node.Node) {
	t.Helper()
	if n.Up() || n.Service() != nil || n.Player() != nil || n.Disk() == nil {
		t.Fatalf("P1905: a node that is down has %v, %p, %p, %p", n.Up(), n.Service(), n.Player(), n.Disk())
	}
}

// answer: of any of the nine calls, and of Restart.
type answer struct {
	key    api.Key
	effect service.Effect
	e      api.Errno
}

func (a answer) same(b answer) bool {
	return a.key == b.key && a.e == b.e && sameEffect(a.effect, b.effect)
}

// isError: that error and nothing beside it.
func (a answer) isError(want api.Errno) bool { return a.same(answer{e: want}) }

type named struct {
	name string
	do   func(n *node.Node) answer
}

func alone(e api.Errno) answer { return answer{e: e} }

func withEffect(x service.Effect, e api.Errno) answer { return answer{effect: x, e: e} }

func withKey(k api.Key, x service.Effect, e api.Errno) answer { return answer{k, x, e} }

// nine: each of the nine calls, with arguments that a node takes which has begun stream 3, listens to 5, and has sent one frame; and with some that it does not take.
func nine(t *testing.T) (good, bad []named) {
	good = []named{
		{"Listen", func(n *node.Node) answer { return alone(n.Listen(6, api.Quota{Count: 1, Bytes: 1})) }},
		{"Unlisten", func(n *node.Node) answer { return alone(n.Unlisten(5)) }},
		{"Begin", func(n *node.Node) answer { return alone(n.Begin(4)) }},
		{"Cease", func(n *node.Node) answer { return alone(n.Cease(3)) }},
		{"Send", func(n *node.Node) answer { return withKey(n.Send(3, 101, 50, []byte("def"), 101)) }},
		{"Cancel", func(n *node.Node) answer { return withEffect(n.Cancel(key(3, 0), 101)) }},
		{"Kick", func(n *node.Node) answer { return withEffect(n.Kick(101)) }},
		{"Hear", func(n *node.Node) answer { return withEffect(n.Hear(theirs(t, 1, 100, "abc"), 101)) }},
		{"Hear of a report", func(n *node.Node) answer { return withEffect(n.Hear(reported(t, 2, 1, api.Stored), 101)) }},
		{"Tick", func(n *node.Node) answer { return withEffect(n.Tick(150)) }},
	}
	bad = []named{
		{"Listen(-1)", func(n *node.Node) answer { return alone(n.Listen(-1, api.Quota{Count: 1, Bytes: 1})) }},
		{"Unlisten(8)", func(n *node.Node) answer { return alone(n.Unlisten(math.MaxInt)) }},
		{"Begin(8)", func(n *node.Node) answer { return alone(n.Begin(8)) }},
		{"Cease(-1)", func(n *node.Node) answer { return alone(n.Cease(math.MinInt)) }},
		{"Send(-1)", func(n *node.Node) answer {
			return withKey(n.Send(-1, math.MaxUint64, math.MaxUint64, make([]byte, 5000), 0))
		}},
	}
	return good, bad
}

// TestExampleOne: the chapter's first example.
func TestExampleOne(t *testing.T) {
	n := fresh(t, 256)
	isUp(t, n)
	is(t, "P1903: Begin(3)", n.Begin(3), api.OK)
	f := frame(3, 100, 0, 50, "abc")
	k, x, e := n.Send(3, 100, 50, []byte("abc"), 100)
	want := api.Unit{Kind: api.Data, Epoch: 2, Session: 1, Path: api.Express, Count: 1, Data: blockOf(t, f, 1, 2, true)}
	if e != api.OK || k != key(3, 0) || !sameEffect(x, service.Effect{Units: []api.Unit{want}}) {
		t.Fatalf("P1903: Send = %v, %+v, %v", k, x, e)
	}
	n.Cut(0)
	if x, e := n.Tick(101); e != api.OK || !isNone(x) || !n.Up() {
		t.Fatalf("P1903: Tick = %+v, %v: nothing is written", x, e)
	}
	if k, x, e := n.Send(3, 101, 50, nil, 101); e != api.ErrPower || k != (api.Key{}) || !isNone(x) {
		t.Fatalf("P1903: Send = %v, %+v, %v", k, x, e)
	}
	isDown(t, n)
	if k, x, e := n.Send(3, 101, 50, nil, 101); e != api.ErrDown || k != (api.Key{}) || !isNone(x) {
		t.Fatalf("P1903: Send of one that is down = %v, %+v, %v", k, x, e)
	}
	if x, e := n.Restart(102); e != api.ErrPower || !isNone(x) {
		t.Fatalf("P1904: Restart = %+v, %v", x, e)
	}
	isDown(t, n)
	n.Crash(nil)
	isDown(t, n)
	x, e = n.Restart(102)
	want = api.Unit{Kind: api.Data, Epoch: 3, Session: 1, Path: api.Freight, Count: 1, Data: blockOf(t, f, 1, 2, false)}
	if e != api.OK || !sameEffect(x, service.Effect{Units: []api.Unit{want}}) {
		t.Fatalf("P1904: Restart = %+v, %v", x, e)
	}
	isUp(t, n)
}

// TestExampleTwo: the write goes through, the flush does not.
func TestExampleTwo(t *testing.T) {
	for _, choices := range [][]int{nil, {0}, {1}, {1, 1, 1}, {2}, {-1}, {math.MaxInt}} {
		n := begun(t, 256)
		n.Cut(1)
		if k, x, e := n.Send(3, 100, 50, []byte("abc"), 100); e != api.ErrPower || k != (api.Key{}) || !isNone(x) {
			t.Fatalf("P1903: Send = %v, %+v, %v", k, x, e)
		}
		if s, _ := n.Disk().Dirty(); len(s) != 1 {
			t.Fatalf("P4.6: the sectors %v are dirty", s)
		}
		n.Crash(choices)
		x, e := n.Restart(101)
		is(t, "P1907: Restart", e, api.OK)
		there := len(choices) > 0 && choices[0] == 1
		want := []api.Key(nil)
		if there {
			want = append(want, key(3, 0))
		}
		if l := n.Service().Backlog().Keys(); !slices.Equal(l, want) || len(x.Units) != len(want) {
			t.Errorf("P1906: with the choices %v there are %v, and %d units", choices, l, len(x.Units))
		}
	}
}

func TestExampleThree(t *testing.T) {
	n := fresh(t, 256)
	before := tells(n.Service())
	for _, now := range []uint64{0, 100, 101, math.MaxUint64} {
		if x, e := n.Restart(now); e != api.ErrUp || !isNone(x) {
			t.Errorf("P1904: Restart of one that is up = %+v, %v", x, e)
		}
	}
	isUp(t, n)
	if tells(n.Service()) != before || n.Service().State().Now != 100 || n.Service().State().Epoch != 2 {
		t.Error("P1904: a Restart that is refused has changed something")
	}
	if n, e := node.New(config(), 1, 2, 3, 100); n != nil || e != api.ErrArg {
		t.Errorf("P1902: New with 3 sectors = %v, %v", n, e)
	}
}

func TestNew(t *testing.T) {
	bad := config()
	bad.Mtu = 15
	none := api.Config{}
	for _, x := range []struct {
		c          api.Config
		self, peer uint64
		sectors    int
		want       api.Errno
	}{
		{config(), 1, 2, 83, api.OK}, {config(), 2, 1, 83, api.OK}, {config(), top, top - 1, 100, api.OK}, {config(), 1, top, 65536, api.OK},
		{bad, 1, 2, 256, api.ErrArg}, {none, 1, 2, 256, api.ErrArg}, {none, 0, 0, -1, api.ErrArg},
		{config(), 0, 2, 256, api.ErrArg}, {config(), 1, 0, 256, api.ErrArg}, {config(), top + 1, 2, 256, api.ErrArg}, {config(), 1, top + 1, 256, api.ErrArg},
		{config(), 1, 1, 256, api.ErrArg}, {config(), math.MaxUint64, 1, 256, api.ErrArg}, {config(), 1, math.MaxUint64, 256, api.ErrArg},
		{config(), 1, 2, 82, api.ErrArg}, {config(), 1, 2, 1, api.ErrArg}, {config(), 1, 2, 0, api.ErrArg}, {config(), 1, 2, -1, api.ErrArg},
		{config(), 1, 2, 65537, api.ErrArg}, {config(), 1, 2, math.MaxInt, api.ErrArg}, {config(), 1, 2, math.MinInt, api.ErrArg},
	} {
		n, e := node.New(x.c, x.self, x.peer, x.sectors, 7)
		if e != x.want || (n != nil) != (e == api.OK) {
			t.Errorf("P1902: New(%+v, %d, %d, %d) = %v, %v, want %v", x.c, x.self, x.peer, x.sectors, n, e, x.want)
		}
		if e != api.OK {
			continue
		}
		isUp(t, n)
		if s := n.Service().State(); n.Disk().Sectors() != x.sectors || s.Epoch != 2 || s.Now != 7 {
			t.Errorf("P1902: New with %d sectors has %d of them, and %+v", x.sectors, n.Disk().Sectors(), s)
		}
		if l, _ := n.Disk().Dirty(); len(l) != 0 || n.Disk().Down() || tells(n.Service()) != tells(fresh(t, 83).Service()) {
			t.Errorf("P1902: a new node's disk has the dirty sectors %v, and there is %s", l, tells(n.Service()))
		}
	}
}

// TestSelfAndPeer: a node's frames are from self to peer, in all its lives, and it judges those of its peer to itself.
func TestSelfAndPeer(t *testing.T) {
	c := config()
	c.Mtu = 1024
	n, e := node.New(c, 77, 5, 100, 100)
	is(t, "P1902: New", e, api.OK)
	is(t, "P1903: Begin", n.Begin(3), api.OK)
	is(t, "P1903: Listen", n.Listen(5, api.Quota{Count: 9, Bytes: 500}), api.OK)
	data := strings.Repeat("0123456789", 20)
	sent := frame(3, 100, 0, 50, data)
	_, x, e := n.Send(3, 100, 50, []byte(data), 100)
	for life := uint64(2); life < 5; life++ {
		if e != api.OK || len(x.Units) != 1 || !bytes.Equal(x.Units[0].Data, blockOf(t, sent, 77, 5, life == 2)) {
			t.Fatalf("P1904: in the life %d %+v, %v", life, x, e)
		}
		for i, from := range []uint64{5, 77, 6} {
			block := blockOf(t, frame(5, 100+life, uint64(i), 50, "x"), from, 82-from, true)
			u := api.Unit{Kind: api.Data, Epoch: 9, Session: life*10 + uint64(i), Path: api.Freight, Count: 1, Data: block}
			want := api.Unheard
			if from == 5 {
				want = api.Stored
			}
			if y, e := n.Hear(encode(t, u), 101); e != api.OK || len(y.Units) != 1 || y.Units[0].Code != want {
				t.Fatalf("P1903: Hear of one from %d = %+v, %v", from, y, e)
			}
		}
		n.Crash(nil)
		x, e = n.Restart(101)
	}
}

// TestNineCalls: what each call answers is what the service's call of that name answers, the database's, the backlog's.
func TestNineCalls(t *testing.T) {
	n := begun(t, 256)
	s := n.Service()
	is(t, "P1903: Begin of one that is begun", n.Begin(3), api.ErrTwice)
	is(t, "P1903: Begin(7)", n.Begin(7), api.OK)
	is(t, "P1903: Begin(8)", n.Begin(8), api.ErrArg)
	is(t, "P1903: Cease(6)", n.Cease(6), api.ErrStream)
	is(t, "P1903: Cease(7)", n.Cease(7), api.OK)
	is(t, "P1903: Cease(-1)", n.Cease(-1), api.ErrArg)
	is(t, "P1903: Listen to one that is listened to", n.Listen(5, api.Quota{Count: 3, Bytes: 500}), api.ErrTwice)
	is(t, "P1903: Listen(6)", n.Listen(6, api.Quota{Count: 65, Bytes: 1}), api.ErrQuota)
	is(t, "P1903: Listen(6)", n.Listen(6, api.Quota{Count: 64, Bytes: 1}), api.OK)
	is(t, "P1903: Listen(8)", n.Listen(8, api.Quota{Count: 64, Bytes: 1}), api.ErrArg)
	is(t, "P1903: Unlisten(7)", n.Unlisten(7), api.ErrStream)
	is(t, "P1903: Unlisten(6)", n.Unlisten(6), api.OK)
	is(t, "P1903: Unlisten(8)", n.Unlisten(8), api.ErrArg)
	if q, heard := s.DB().Quota(5); !heard || q != (api.Quota{Count: 3, Bytes: 500}) || !slices.Equal(s.Backlog().Streams(), []int{3}) {
		t.Errorf("P1903: %v, %v, and %v is begun", q, heard, s.Backlog().Streams())
	}

	for _, x := range []struct {
		stream     int
		time, life uint64
		size       int
		want       api.Errno
	}{{4, 200, 50, 3, api.ErrStream}, {3, 200, 50, 513, api.ErrSize}, {3, 60, 50, 3, api.ErrExpired}, {3, top + 1, 50, 3, api.ErrArg}} {
		if a := withKey(n.Send(x.stream, x.time, x.life, make([]byte, x.size), 110)); !a.isError(x.want) {
			t.Errorf("P1903: Send(%+v) = %+v", x, a)
		}
	}
	if s.State().Now != 110 {
		t.Errorf("P1903: the clock is at %d", s.State().Now)
	}
	if a := withKey(n.Send(3, 110, 50, nil, 110)); a.e != api.OK || a.key != key(3, 0) || len(a.effect.Units) != 1 {
		t.Errorf("P1903: Send = %+v", a)
	}
	if a := withEffect(n.Cancel(key(3, 9), 111)); !a.isError(api.ErrNone) {
		t.Errorf("P1903: Cancel of none = %+v", a)
	}
	if a := withEffect(n.Hear([]byte{1, 2, 3}, 112)); !a.isError(api.ErrShort) || s.State().Now != 112 {
		t.Errorf("P1903: Hear of no unit = %+v", a)
	}
	if a := withEffect(n.Hear(nil, 112)); !a.isError(api.ErrShort) {
		t.Errorf("P1903: Hear of nothing = %+v", a)
	}
	f := frame(5, 100, 1, 50, "abc")
	if a := withEffect(n.Hear(theirs(t, 1, 100, "abc"), 113)); a.e != api.OK || len(a.effect.Shown) != 1 || !sameFrame(a.effect.Shown[0], f) || len(a.effect.Units) != 1 || a.effect.Units[0].Code != api.Stored {
		t.Errorf("P1903: Hear = %+v", a)
	}
	if a := withEffect(n.Tick(120)); a.e != api.OK || len(a.effect.Units) != 1 || a.effect.Units[0].Path != api.Freight {
		t.Errorf("P1903: Tick = %+v", a)
	}
	if a := withEffect(n.Tick(140)); a.e != api.OK || len(a.effect.Units) != 1 {
		t.Errorf("P1903: Tick = %+v", a)
	}
	n.Tick(149)
	if a := withEffect(n.Kick(149)); !a.isError(api.OK) {
		t.Errorf("P1903: Kick = %+v", a)
	}
	if a := withEffect(n.Cancel(key(3, 0), 150)); a.e != api.OK || !slices.Equal(a.effect.Done, []api.Done{{Key: key(3, 0), Code: api.Cancelled}}) {
		t.Errorf("P1903: Cancel = %+v", a)
	}
	isUp(t, n)
	if n.Service() != s {
		t.Error("P1905: the service is another one")
	}
}

// TestKick: what rests goes again.
func TestKick(t *testing.T) {
	c := config()
	c.Retries = 0
	n, _ := node.New(c, 1, 2, 256, 100)
	n.Begin(3)
	n.Send(3, 100, 500, []byte("abc"), 100)
	n.Tick(110)
	if a := withEffect(n.Tick(130)); a.e != api.OK || !slices.Equal(a.effect.Rest, []api.Key{key(3, 0)}) {
		t.Fatalf("P1903: Tick = %+v", a)
	}
	if a := withEffect(n.Kick(131)); a.e != api.OK || len(a.effect.Units) != 1 || a.effect.Units[0].Session != 3 {
		t.Errorf("P1903: Kick = %+v", a)
	}
}

// TestNoneMade: of a nil node, and of one that New did not make.
func TestNoneMade(t *testing.T) {
	good, bad := nine(t)
	calls := slices.Concat(good, bad, []named{{"Restart", func(n *node.Node) answer { return withEffect(n.Restart(100)) }}})
	for _, n := range []*node.Node{nil, {}, new(node.Node)} {
		for range 2 {
			for _, c := range calls {
				if a := c.do(n); !a.isError(api.ErrArg) {
					t.Errorf("P1901: %s of a node that is none = %+v", c.name, a)
				}
			}
			n.Cut(0)
			n.Cut(-1)
			n.Crash(nil)
			n.Crash([]int{1, 2, 3})
			if n.Up() || n.Service() != nil || n.Player() != nil || n.Disk() != nil {
				t.Error("P1901: a node that is none has something")
			}
		}
	}
}

// TestDown: each of the nine calls of one that is down, whatever it is given, and nothing is done.
func TestDown(t *testing.T) {
	good, bad := nine(t)
	for _, falls := range []func(n *node.Node){
		func(n *node.Node) { n.Crash(nil) },
		func(n *node.Node) { n.Cut(0); n.Begin(6) },
	} {
		n := begun(t, 256)
		n.Send(3, 100, 50, []byte("abc"), 100)
		falls(n)
		isDown(t, n)
		image := n.Disk().Image()
		n.Cut(2) // whoever wrote would bring it down to zero
		for _, c := range slices.Concat(good, bad) {
			if a := c.do(n); !a.isError(api.ErrDown) {
				t.Errorf("P1903: %s of one that is down = %+v", c.name, a)
			}
			isDown(t, n)
		}
		if l, _ := n.Disk().Dirty(); len(l) != 0 || !bytes.Equal(n.Disk().Image(), image) {
			t.Errorf("P1903: the disk of one that is down has changed")
		}
	}
}

// TestFalls: each of the nine calls that commits something, the power failing ahead of each of its operations: ErrPower, and nothing else; the same call of one that is not cut says what it says.
func TestFalls(t *testing.T) {
	good, _ := nine(t)
	ready := func() *node.Node {
		n := begun(t, 256)
		n.Send(3, 100, 50, []byte("abc"), 100)
		return n
	}
	for _, c := range good {
		want := c.do(ready())
		if want.e != api.OK {
			t.Fatalf("P1903: %s = %+v", c.name, want)
		}
		fuse := 0
		for ; ; fuse++ {
			n := ready()
			n.Cut(fuse)
			a := c.do(n)
			if a.e == api.OK {
				if !a.same(want) {
					t.Errorf("P1903: %s with a fuse of %d = %+v, want %+v", c.name, fuse, a, want)
				}
				isUp(t, n)
				break
			}
			if !a.isError(api.ErrPower) {
				t.Errorf("P1903: %s with a fuse of %d = %+v", c.name, fuse, a)
			}
			isDown(t, n)
			if !n.Disk().Down() {
				t.Errorf("P1903: %s with a fuse of %d: the power is there", c.name, fuse)
			}
		}
		if c.name == "Kick" && fuse > 0 || c.name != "Kick" && fuse < 2 { // a batch has a piece and a flush at least
			t.Errorf("P1903: %s has %d operations", c.name, fuse)
		}
	}
}

// TestNothingIsWritten: a call that commits nothing does not touch the disk: it does not fall, though the fuse is at zero.
func TestNothingIsWritten(t *testing.T) {
	n := begun(t, 256)
	n.Send(3, 100, 50, []byte("abc"), 100)
	n.Cut(0)
	_, bad := nine(t)
	for _, c := range bad {
		if a := c.do(n); !a.isError(api.ErrArg) {
			t.Errorf("P1903: %s = %+v", c.name, a)
		}
	}
	is(t, "P1903: Begin", n.Begin(3), api.ErrTwice)
	is(t, "P1903: Cease", n.Cease(4), api.ErrStream)
	is(t, "P1903: Listen", n.Listen(5, api.Quota{Count: 1, Bytes: 1}), api.ErrTwice)
	is(t, "P1903: Unlisten", n.Unlisten(4), api.ErrStream)
	for _, a := range []answer{withEffect(n.Kick(101)), withEffect(n.Tick(101)), withEffect(n.Hear(reported(t, 2, 7, api.Stored), 101))} {
		if !a.isError(api.OK) {
			t.Errorf("P1903: a call that commits nothing = %+v", a)
		}
	}
	if a := withEffect(n.Tick(110)); a.e != api.OK || len(a.effect.Units) != 1 { // by freight: no batch is needed for that
		t.Errorf("P1903: Tick = %+v", a)
	}
	isUp(t, n)
	n.Cut(-1)
	is(t, "P1904: Begin without a fuse", n.Begin(4), api.OK)
	n.Cut(1)
	n.Cut(2)
	is(t, "P1904: Begin with a fuse that is long enough", n.Begin(5), api.OK)
	is(t, "P1904: Begin behind it", n.Begin(6), api.ErrPower)
	isDown(t, n)
}

// TestTold: where a call has answered OK nothing is left in the cache.
func TestTold(t *testing.T) {
	good, _ := nine(t)
	for _, c := range good {
		n := begun(t, 256)
		n.Send(3, 100, 50, []byte("abc"), 100)
		if a := c.do(n); a.e != api.OK {
			t.Fatalf("P1903: %s = %+v", c.name, a)
		}
		if l, _ := n.Disk().Dirty(); len(l) != 0 {
			t.Errorf("P1903: behind %s the sectors %v are dirty", c.name, l)
		}
		want := tells(n.Service())
		n.Crash([]int{-1, -1, -1})
		_, e := n.Restart(102)
		is(t, "P1907: Restart", e, api.OK)
		if got := tells(n.Service()); got != want {
			t.Errorf("P1906: behind %s there was\n%s\nand behind a fall\n%s", c.name, want, got)
		}
	}
}

// TestCrash: it falls, whatever it was; the fuse is gone; its disk stays the same object.
func TestCrash(t *testing.T) {
	n := begun(t, 256)
	d := n.Disk()
	for life := uint64(3); life < 6; life++ {
		s, p := n.Service(), n.Player()
		n.Cut(0)
		n.Crash(nil)
		isDown(t, n)
		n.Crash([]int{5})
		isDown(t, n)
		if d.Down() {
			t.Fatal("P1904: behind a Crash the power is gone")
		}
		_, e := n.Restart(life * 10)
		is(t, "P1907: Restart", e, api.OK)
		isUp(t, n)
		if n.Disk() != d || n.Service() == s || n.Player() == p {
			t.Errorf("P1905: the disk is another one, or service or player are the same")
		}
		if x := n.Service().State(); x.Epoch != life || x.Now != life*10 {
			t.Errorf("P1904: the new service's state is %+v", x)
		}
	}
}

// TestRestartFalls: a Restart whose power fails leaves the node down; behind a Crash it gets up.
func TestRestartFalls(t *testing.T) {
	n := begun(t, 256)
	n.Send(3, 100, 50, []byte("abc"), 100)
	want := tells(n.Service())
	epoch := uint64(2)
	for fuse := 0; ; fuse++ {
		n.Crash(nil)
		n.Cut(fuse)
		x, e := n.Restart(101)
		if e == api.OK {
			if fuse == 0 {
				t.Error("P1904: a Restart writes nothing, though its epoch is a new one")
			}
			break
		}
		if e != api.ErrPower || !isNone(x) {
			t.Fatalf("P1904: Restart with a fuse of %d = %+v, %v", fuse, x, e)
		}
		isDown(t, n)
		if x, e := n.Restart(101); e != api.ErrPower || !isNone(x) {
			t.Fatalf("P1904: Restart without power = %+v, %v", x, e)
		}
		n.Crash([]int{1, 1, 1}[:fuse%4])
		if x, e := n.Restart(101); e != api.OK || len(x.Units) != 1 || tells(n.Service()) != want {
			t.Fatalf("P1907: Restart behind one that broke off with a fuse of %d = %+v, %v", fuse, x, e)
		}
		if now := n.Service().State().Epoch; now <= epoch {
			t.Fatalf("P1906: the epoch is %d behind %d", now, epoch)
		} else {
			epoch = now
		}
	}
	isUp(t, n)
}

// TestClock: a node has none of its own: a new life's begins at the time of its Restart.
func TestClock(t *testing.T) {
	n := begun(t, 256)
	n.Send(3, 100, 50, []byte("abc"), 100)
	n.Tick(140)
	for _, x := range []struct{ now, want uint64 }{{5, 5}, {0, 0}, {top, top}, {math.MaxUint64, top}, {149, 149}} {
		n.Crash(nil)
		y, e := n.Restart(x.now)
		if e != api.OK || len(y.Units) != 1 || n.Service().State().Now != x.want {
			t.Fatalf("P1904: Restart(%d) = %+v, %v, and the clock is at %d", x.now, y, e, n.Service().State().Now)
		}
	}
	n.Crash(nil)
	n.Tick(1000) // of one that is down: forgotten, too
	n.Restart(40)
	if a := withKey(n.Send(3, 41, 1, nil, 41)); a.e != api.OK {
		t.Errorf("P1904: Send in a life that began earlier = %+v", a)
	}
	if a := withKey(n.Send(3, 41, 1, nil, 42)); !a.isError(api.ErrExpired) {
		t.Errorf("P1904: Send of one that is over = %+v", a)
	}
}

// TestPlayer: cursors are a life's; the player goes over the service's database.
func TestPlayer(t *testing.T) {
	n := begun(t, 256)
	p := n.Player()
	for i := range uint64(3) {
		if _, e := n.Hear(theirs(t, i+1, 100+i, "abc"), 103); e != api.OK {
			t.Fatalf("P1903: Hear = %v", e)
		}
	}
	c, e := p.Open(5)
	is(t, "P1803: Open", e, api.OK)
	for i := range uint64(3) {
		if f, e := p.Next(c); e != api.OK || f.Stamp.Time != 100+i {
			t.Errorf("P1905: Next = %v, %v", f, e)
		}
	}
	n.Hear(theirs(t, 9, 110, "def"), 110)
	if f, e := n.Player().Next(c); e != api.OK || f.Stamp.Seq != 9 || n.Player() != p {
		t.Errorf("P1905: Next = %v, %v", f, e)
	}
	n.Crash(nil)
	n.Restart(111)
	if l := n.Player().Cursors(); len(l) != 0 {
		t.Errorf("P1904: a new player has the cursors %v", l)
	}
	c, _ = n.Player().Open(5)
	if f, e := n.Player().Next(c); e != api.OK || f.Stamp.Time != 101 { // three have room
		t.Errorf("P1904: Next = %v, %v", f, e)
	}
}

// TestFullTable: a table that has no room refuses by name, and the node goes on.
func TestFullTable(t *testing.T) {
	n, e := node.New(config(), 1, 2, 83, 100)
	is(t, "P1902: New", e, api.OK)
	is(t, "P1903: Begin", n.Begin(3), api.OK)
	a := withKey(n.Send(3, 100, 50, make([]byte, 512), 100))
	if !a.isError(api.ErrFull) {
		t.Fatalf("P1903: Send = %+v, want ErrFull", a)
	}
	isUp(t, n)
	want := tells(n.Service())
	for range 3 {
		if a := withKey(n.Send(3, 100, 50, make([]byte, 512), 100)); !a.isError(api.ErrFull) || tells(n.Service()) != want {
			t.Fatalf("P1903: Send = %+v", a)
		}
	}
	n.Crash([]int{1, 1, 1})
	_, e = n.Restart(101)
	if e != api.OK || tells(n.Service()) != want {
		t.Errorf("P1906: behind the fall there is %s, want %s", tells(n.Service()), want)
	}
}

// TestWholeDisk: the table lies in all of the disk's sectors: another one can be opened just there.
func TestWholeDisk(t *testing.T) {
	n := begun(t, 90)
	want := n.Service().State().Epoch
	n.Crash(nil)
	if _, e := table.Open(n.Disk(), 0, 89); e != api.ErrLog {
		t.Errorf("P1902: a smaller table on the disk: %v", e)
	}
	tb, e := table.Open(n.Disk(), 0, 90)
	if e != api.OK || tb.Epoch() != want+1 || tb.Len() != 2 {
		t.Errorf("P1902: the table on the disk: %v", e)
	}
}
