package node_test

import (
	"fmt"
	"math/rand"
	"slices"
	"strings"
	"testing"

	"halyard/api"
	"halyard/disk"
	"halyard/node"
	"halyard/octet"
	"halyard/seglog"
	"halyard/service"
)

// story: calls of each kind, some of which commit several batches, and some none, on a table so small that checkpoints come.
func story(t *testing.T) []act {
	long := strings.Repeat("some data", 9)
	return []act{
		begins(3), listens(5, api.Quota{Count: 2, Bytes: 300}), begins(4), ceases(4),
		sends(3, 200, 100, "abc", 100), sends(3, 100, 30, "def", 100), sends(3, 99, 31, "", 100), sends(3, 98, 500, long, 100),
		hears("their 1", theirs(t, 1, 100, long), 100), hears("their 2", theirs(t, 2, 101, "x"), 100), hears("their 2", theirs(t, 2, 101, "x"), 100),
		hears("their 3", theirs(t, 3, 102, "rolls"), 101), hears("a report", reported(t, 2, 1, api.Stored), 101), hears("the report again", reported(t, 2, 1, api.Stored), 101),
		kicks(102), ticks(110), listens(6, api.Quota{Count: 1, Bytes: 1}), unlistens(6),
		ticks(130), // two lives are over
		sends(3, 300, 100, long, 131), cancels(key(3, 3), 132), sends(3, 300, 1, long, 132), sends(3, 301, 1, "", 132), hears("their 9", theirs(t, 9, 140, long), 140),
		ticks(302), // lives of both kinds are over
		unlistens(5), sends(3, 400, 100, long, 303), ceases(3),
	}
}

// firstParts: what there may be behind a call that broke off: what a service tells whose table fell in it, sooner or later.
func firstParts(t *testing.T, sectors int, before []act, last act) (l []string) {
	t.Helper()
	for fuse := 0; ; fuse++ {
		p := newPlain(t, sectors, 100)
		for _, a := range before {
			a.plain(p)
		}
		p.disk.Cut(fuse)
		a := last.plain(p)
		if x := tells(p.service); !slices.Contains(l, x) {
			l = append(l, x)
		}
		if a.e != api.ErrPower {
			return l
		}
	}
}

// breaks: a node on which those calls were made, and that one, which broke off at that fuse; nil, if it did not.
func breaks(t *testing.T, sectors int, before []act, last act, fuse int) *node.Node {
	t.Helper()
	n := fresh(t, sectors)
	for _, a := range before {
		a.node(n)
	}
	n.Cut(fuse)
	a := last.node(n)
	if a.e != api.ErrPower {
		return nil
	}
	if !a.isError(api.ErrPower) || n.Up() {
		t.Fatalf("P1903: %s with a fuse of %d = %+v", last.name, fuse, a)
	}
	return n
}

// lots: choices of several kinds for the sectors that are dirty: none, all, a first part, spoilt ones, and some by chance.
func lots(d *disk.Disk, r *rand.Rand) (l [][]int) {
	_, versions := d.Dirty()
	l = append(l, nil, versions, slices.Repeat([]int{-1}, len(versions)))
	for i := range versions {
		l = append(l, versions[:i], append(slices.Clone(versions[:i]), -1))
	}
	for range 3 {
		some := make([]int, len(versions))
		for i, v := range versions {
			some[i] = r.Intn(v+2) - 1
		}
		l = append(l, some)
	}
	return l
}

// restarted: it gets up at once, with one of those states, and a further fall, in which nothing was told, changes nothing of it.
func restarted(t *testing.T, n *node.Node, states []string, epoch uint64, what string) {
	t.Helper()
	_, e := n.Restart(500)
	is(t, "P1907: "+what+": Restart", e, api.OK)
	got := tells(n.Service())
	if !slices.Contains(states, got) {
		t.Fatalf("P1906: behind %s there is\n%s\nwant one of\n%s", what, got, strings.Join(states, "\nor\n"))
	}
	for range 2 {
		if now := n.Service().State().Epoch; now <= epoch {
			t.Fatalf("P1906: behind %s the epoch is %d, and was %d before", what, now, epoch)
		} else {
			epoch = now
		}
		n.Crash([]int{-1, 1, -1})
		_, e := n.Restart(501)
		is(t, "P1907: "+what+": Restart", e, api.OK)
		if tells(n.Service()) != got {
			t.Fatalf("P1906: behind %s a further fall has changed\n%s\nto\n%s", what, got, tells(n.Service()))
		}
	}
}

// TestWhatWasToldLasts: the power fails ahead of each operation of each call of a story; the disk keeps what it likes.
func TestWhatWasToldLasts(t *testing.T) {
	r := rand.New(rand.NewSource(1))
	for _, sectors := range []int{90, 200} {
		calls := story(t)
		several := 0
		for i, last := range calls {
			states := firstParts(t, sectors, calls[:i], last)
			if len(states) > 2 {
				several++
			}
			for fuse := 0; ; fuse++ {
				n := breaks(t, sectors, calls[:i], last, fuse)
				if n == nil {
					break
				}
				for _, choices := range lots(n.Disk(), r) {
					n := breaks(t, sectors, calls[:i], last, fuse)
					n.Crash(choices)
					restarted(t, n, states, 2, fmt.Sprintf("%s, a fuse of %d, the choices %v", last.name, fuse, choices))
				}
			}
		}
		if several < 2 {
			t.Errorf("%d calls of the story commit several batches", several)
		}
	}
}

// TestRestartsThatBreakOff: the fall comes in the midst of a Restart, too, and again in that of the next one.
func TestRestartsThatBreakOff(t *testing.T) {
	r := rand.New(rand.NewSource(2))
	calls := story(t)
	broken := 0
	for i, last := range calls {
		const sectors = 90
		states := firstParts(t, sectors, calls[:i], last)
		for fuse := 0; ; fuse++ {
			n := breaks(t, sectors, calls[:i], last, fuse)
			if n == nil {
				break
			}
			for first := range 3 {
				for second := range 3 {
					n := breaks(t, sectors, calls[:i], last, fuse)
					for _, operations := range []int{first, second} {
						l := lots(n.Disk(), r)
						n.Crash(l[r.Intn(len(l))])
						n.Cut(operations)
						a := withEffect(n.Restart(400))
						if a.e == api.OK {
							n.Crash(nil)
							continue
						}
						broken++
						if !a.isError(api.ErrPower) {
							t.Fatalf("P1904: Restart with a fuse of %d = %+v", operations, a)
						}
						isDown(t, n)
					}
					l := lots(n.Disk(), r)
					n.Crash(l[r.Intn(len(l))])
					restarted(t, n, states, 2, fmt.Sprintf("%s, a fuse of %d, and %d, %d operations of Restarts", last.name, fuse, first, second))
				}
			}
		}
	}
	if broken < 100 {
		t.Errorf("%d Restarts broke off", broken)
	}
}

// pair: two nodes that hear each other over a way that may lose, double and mix, and what they were told.
type pair struct {
	t      *testing.T
	r      *rand.Rand
	nodes  [2]*node.Node
	way    [2][][]byte // away from each
	sent   [2]map[api.Key]api.Frame
	perhap [2]map[string]bool // frames of Sends that a fall broke off, without their numbers
	stored [2]map[api.Key]api.Frame
	open   [2]map[api.Key]bool // sent, and not done with
	high   [2]*api.Stamp
	now    uint64
}

func newPair(t *testing.T, seed int64) *pair {
	p := &pair{t: t, r: rand.New(rand.NewSource(seed)), now: 100}
	for i := range 2 {
		n, e := node.New(config(), uint64(i+1), uint64(2-i), 600, 100)
		is(t, "P1902: New", e, api.OK)
		is(t, "P1903: Begin", n.Begin(3), api.OK)
		is(t, "P1903: Listen", n.Listen(3, api.Quota{Count: 64, Bytes: api.MaxBytes}), api.OK)
		p.nodes[i] = n
		p.sent[i], p.stored[i], p.open[i], p.perhap[i] = map[api.Key]api.Frame{}, map[api.Key]api.Frame{}, map[api.Key]bool{}, map[string]bool{}
	}
	return p
}

func loose(f api.Frame) string { return fmt.Sprint(f.Stamp.Time, f.Life, f.Data) }

// tell: what a node's call came to.
func (p *pair) tell(i int, a answer) {
	for _, u := range a.effect.Units {
		p.way[i] = append(p.way[i], encode(p.t, u))
	}
	for _, f := range a.effect.Shown {
		if p.high[i] != nil && !p.high[i].Less(f.Stamp) {
			p.t.Fatalf("P2: node %d shows %v behind %v", i+1, f.Stamp, *p.high[i])
		}
		p.high[i] = &f.Stamp
		if was, known := p.sent[1-i][api.Key{Stream: f.Stream, Seq: f.Stamp.Seq}]; !known || !sameFrame(was, f) {
			p.t.Fatalf("P2: node %d shows %v, which was not sent", i+1, f)
		}
	}
	for _, d := range a.effect.Done {
		if !p.open[i][d.Key] {
			if _, known := p.sent[i][d.Key]; known {
				p.t.Fatalf("P4: a second Done of %v", d)
			}
		}
		delete(p.open[i], d.Key)
		if f, known := p.sent[i][d.Key]; known && d.Code == api.Stored {
			p.stored[i][d.Key] = f
		}
	}
}

// look: what was told is so, at each node that is up.
func (p *pair) look() {
	for i, n := range p.nodes {
		if !n.Up() {
			continue
		}
		l := n.Service().Backlog()
		for k := range p.open[i] {
			if f, there := l.Get(k); !there || !sameFrame(f, p.sent[i][k]) {
				p.t.Fatalf("P4: node %d has lost %v", i+1, k)
			}
		}
		var had []api.Frame
		for f := range n.Service().DB().Frames(3) {
			had = append(had, f)
			k := api.Key{Stream: 3, Seq: f.Stamp.Seq}
			if was, known := p.sent[1-i][k]; known && !sameFrame(was, f) || !known && !p.perhap[1-i][loose(f)] {
				p.t.Fatalf("P3: node %d has %v, which was not sent", i+1, f)
			}
		}
		for _, f := range p.stored[1-i] {
			if _, rolled := n.Service().DB().Floor(3); !rolled && !slices.ContainsFunc(had, func(g api.Frame) bool { return sameFrame(f, g) }) {
				p.t.Fatalf("P4: node %d was told that %v is stored, and it is not", 2-i, f)
			}
		}
	}
}

// fell: what the call that a fall broke off was about is known no more.
func (p *pair) fell(i int) {
	if n := p.nodes[i]; !n.Up() {
		n.Crash(choices(p.r))
		if p.r.Intn(2) == 0 {
			n.Cut(p.r.Intn(3))
			if _, e := n.Restart(p.now); e != api.OK {
				n.Crash(choices(p.r))
			} else {
				n.Crash(nil)
			}
		}
		a := withEffect(n.Restart(p.now))
		is(p.t, "P1907: Restart", a.e, api.OK)
		p.tell(i, a)
	}
}

// hear: a datagram of the other one. A report that a fall broke off may have done what it says.
func (p *pair) hear(i, at int, gone bool) {
	w := p.way[1-i]
	b := w[at]
	if gone {
		p.way[1-i] = slices.Delete(w, at, at+1)
	}
	a := withEffect(p.nodes[i].Hear(b, p.now))
	if a.e == api.ErrPower {
		p.recover(i)
		return
	}
	is(p.t, "P1903: Hear", a.e, api.OK)
	p.tell(i, a)
}

// recover: a call broke off: behind the Restart what it has taken out of the backlog is gone without a Done.
func (p *pair) recover(i int) {
	open := p.open[i]
	p.open[i] = nil
	p.fell(i)
	left := map[api.Key]bool{}
	l := p.nodes[i].Service().Backlog()
	lost := 0
	for k := range open {
		if _, there := l.Get(k); there {
			left[k] = true
		} else {
			lost++
		}
	}
	if lost > 1 { // lives are long: no call is about more than one frame
		p.t.Fatalf("P4: a call that broke off has lost %d frames", lost)
	}
	p.open[i] = left
}

func (p *pair) step() {
	i := p.r.Intn(2)
	n := p.nodes[i]
	if p.r.Intn(12) == 0 {
		n.Cut(p.r.Intn(8))
	}
	switch p.r.Intn(8) {
	case 0, 1:
		f := api.Frame{Stream: 3, Stamp: api.Stamp{Time: p.now + uint64(p.r.Intn(9))}, Life: 100000, Data: make([]byte, p.r.Intn(150))}
		a := withKey(n.Send(3, f.Stamp.Time, f.Life, f.Data, p.now))
		switch a.e {
		case api.OK:
			f.Stamp.Seq = a.key.Seq
			p.sent[i][a.key], p.open[i][a.key] = f, true
			p.tell(i, a)
		case api.ErrPower:
			p.perhap[i][loose(f)] = true
			p.recover(i)
		default:
			is(p.t, "P1903: Send", a.e, api.ErrFull)
		}
	case 2:
		p.now += uint64(p.r.Intn(12))
		a := withEffect(n.Tick(p.now))
		is(p.t, "P1903: Tick", a.e, api.OK) // no life is over: nothing is committed
		p.tell(i, a)
	case 3:
		a := withEffect(n.Kick(p.now))
		is(p.t, "P1903: Kick", a.e, api.OK)
		p.tell(i, a)
	default:
		if w := p.way[1-i]; len(w) > 0 {
			at := p.r.Intn(len(w))
			if p.r.Intn(5) == 0 {
				p.way[1-i] = slices.Delete(w, at, at+1)
			} else {
				p.hear(i, at, p.r.Intn(5) > 0)
			}
		}
	}
}

// drain: all that is under way is delivered, the clock goes on, both are kicked: again and again.
func (p *pair) drain() {
	for i, n := range p.nodes {
		n.Cut(-1)
		p.fell(i)
	}
	for range config().Retries + 8 {
		for len(p.way[0])+len(p.way[1]) > 0 {
			for i := range 2 {
				if len(p.way[1-i]) > 0 {
					p.hear(i, 0, true)
				}
			}
		}
		p.now += config().RetryTime
		for i, n := range p.nodes {
			p.tell(i, withEffect(n.Tick(p.now)))
			p.tell(i, withEffect(n.Kick(p.now)))
		}
	}
	for i, n := range p.nodes {
		if l := n.Service().Backlog().Keys(); len(l) > 0 || len(p.open[i]) > 0 {
			p.t.Fatalf("P5: node %d's backlog is %v, and %v are not done with", i+1, l, p.open[i])
		}
	}
}

// TestTwo: two nodes that fall again and again: what is shown rises, what was told stays true, and a fair end drains.
func TestTwo(t *testing.T) {
	for seed := range int64(25) {
		p := newPair(t, seed)
		for range 300 {
			p.step()
			p.look()
		}
		p.drain()
		p.look()
		if len(p.sent[0]) < 10 || len(p.stored[1]) == 0 {
			t.Errorf("the row of the seed %d has %d frames", seed, len(p.sent[0]))
		}
	}
}

// emptied: the node is down, and its disk has what it is told to.
func emptied(n *node.Node, fill func(d *disk.Disk)) {
	n.Crash(nil)
	fill(n.Disk())
}

// TestNoTable: a disk that has no table any more: the error of what is opened first is told, and the node stays down.
func TestNoTable(t *testing.T) {
	for _, x := range []struct {
		what string
		want api.Errno
		fill func(d *disk.Disk)
	}{
		{"no log", api.ErrLog, func(d *disk.Disk) {
			for i := range d.Sectors() {
				d.Write(i, make([]byte, api.SectorSize))
			}
			d.Flush()
		}},
		{"no table", api.ErrTable, func(d *disk.Disk) { appendTo(t, d, []byte{9}) }},
		{"no database", api.ErrTable, func(d *disk.Disk) { appendTo(t, d, []byte{1, 1, 1, 1, 0x64, 1, 0}) }},
		{"no backlog", api.ErrTable, func(d *disk.Disk) { appendTo(t, d, []byte{1, 1, 1, 1, 98, 1, 0}) }},
	} {
		n := begun(t, 100)
		emptied(n, x.fill)
		for range 2 {
			if a := withEffect(n.Restart(101)); !a.isError(x.want) {
				t.Errorf("P1904: Restart where there is %s = %+v, want %v", x.what, a, x.want)
			}
			isDown(t, n)
		}
		is(t, "P1903: Begin", n.Begin(6), api.ErrDown)
	}
}

// appendTo: a record more in the log that fills the disk.
func appendTo(t *testing.T, d *disk.Disk, rec []byte) {
	t.Helper()
	l, e := seglog.Open(d, 0, d.Sectors())
	is(t, "P5.3: Open", e, api.OK)
	_, e = l.Append(rec)
	is(t, "P5.4: Append", e, api.OK)
	is(t, "P5.5: Flush", l.Flush(), api.OK)
}

// nearTheEnd: a log in which so many pieces have numbers yet, and a table without pairs in it.
func nearTheEnd(t *testing.T, pieces uint64) func(d *disk.Disk) {
	return func(d *disk.Disk) {
		head := []byte{0x68, 0x6c, 0x79, 0x48}
		number := func(n uint64, bytes int) {
			for i := range bytes {
				head = append(head, byte(n>>(8*i)))
			}
		}
		number(100, 6)        // the generation: it lies in slot 0, above all that were
		number(50, 6)         // the epoch
		number(top-pieces, 6) // the first number: of the piece with the table's checkpoint
		number(0, 6)
		number(uint64(d.Sectors()), 4)
		for i := range d.Sectors() {
			d.Write(i, make([]byte, api.SectorSize))
		}
		d.Write(0, octet.Seal(append(head, make([]byte, 92)...)))
		d.Flush()
		appendTo(t, d, []byte{2, 0, 1})
	}
}

// TestFallsOtherwise: a table can fall though the power is there: that error is the answer, of whichever call, and the node falls.
func TestFallsOtherwise(t *testing.T) {
	good, _ := nine(t)
	for _, c := range good {
		switch c.name {
		case "Kick": // it commits nothing
			continue
		case "Hear of a report": // of this life's epoch
			c.do = func(n *node.Node) answer {
				epoch := uint64(1)
				if n.Up() {
					epoch = n.Service().State().Epoch
				}
				return withEffect(n.Hear(reported(t, epoch, 1, api.Stored), 101))
			}
		}
		n := fresh(t, 100)
		emptied(n, nearTheEnd(t, 3))
		_, e := n.Restart(100)
		is(t, "P1904: Restart", e, api.OK)
		is(t, "P1903: Begin", n.Begin(3), api.OK)
		is(t, "P1903: Listen", n.Listen(5, api.Quota{Count: 1, Bytes: 3}), api.OK)
		_, _, e = n.Send(3, 100, 50, nil, 100)
		is(t, "P1903: Send", e, api.OK)
		if a := c.do(n); !a.isError(api.ErrEnd) {
			t.Errorf("P1903: %s without numbers = %+v, want ErrEnd", c.name, a)
		}
		isDown(t, n)
		if n.Disk().Down() {
			t.Errorf("P1903: the power is gone")
		}
		if a := c.do(n); !a.isError(api.ErrDown) {
			t.Errorf("P1903: %s of one that is down = %+v", c.name, a)
		}
	}
}

// TestNothingIsToldAhead: what a call tells is durable: behind each OK of a story the cache is empty, and whoever pulls the plug finds it all.
func TestNothingIsToldAhead(t *testing.T) {
	for _, sectors := range []int{90, 400} {
		calls := story(t)
		for i := range calls {
			n := fresh(t, sectors)
			var x service.Effect
			for _, a := range calls[:i+1] {
				x = a.node(n).effect
			}
			if l, _ := n.Disk().Dirty(); len(l) > 0 {
				t.Errorf("P1903: behind %s the sectors %v are dirty", calls[i].name, l)
			}
			want := tells(n.Service())
			n.Crash(nil)
			_, e := n.Restart(500)
			is(t, "P1907: Restart", e, api.OK)
			if tells(n.Service()) != want {
				t.Errorf("P1906: behind %s a fall takes away what was told", calls[i].name)
			}
			for _, f := range x.Shown {
				if high, _ := n.Service().DB().High(f.Stream); high != f.Stamp {
					t.Errorf("P1906: %v was shown, and the mark is at %v", f.Stamp, high)
				}
			}
		}
	}
}
