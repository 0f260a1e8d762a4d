package world_test

import (
	"bytes"
	"fmt"
	"math/bits"
	"slices"
	"strings"
	"testing"

	"halyard/api"
	"halyard/octet"
	"halyard/pdu"
	"halyard/world"
)

// watch: a world, and what was seen of it from outside, step by step, from its beginning on.
type watch struct {
	t     *testing.T
	setup world.Setup
	*world.World
	row   []world.Step
	nodes [3]*watched // by their numbers
	rows  [3][3][]travels
	tally map[string]int // how often what is rare was seen
}

// watched: a node: what was told of it, and what it had behind the last step that left it up.
type watched struct {
	sent    map[api.Key]api.Frame // by Sends that answered OK
	loose   []api.Frame           // of Sends that a fall broke off: their numbers are not known
	backlog []api.Frame
	streams [api.MaxStreams]stream
	ever    []api.Frame // that were in its database at some time
	shown   [api.MaxStreams][]api.Stamp
	fall    *fall // nil, if it is up, or fell as it was told to
	cursors map[int]*cursor
	epoch   uint64
	up      bool
}

// stream: of a database.
type stream struct {
	quota  api.Quota
	heard  bool
	frames []api.Frame
}

// fall: the step that broke off, and the clock at which it was done.
type fall struct {
	step world.Step
	now  uint64
}

type cursor struct {
	stream int
	place  *api.Stamp // nil: ahead of all frames
}

// travels: a datagram: as it was sent, and as it is.
type travels struct {
	sent, now []byte
	turned    bool
}

func newWatch(t *testing.T, s world.Setup) *watch {
	t.Helper()
	v := &watch{t: t, setup: s, World: fresh(t, s), tally: map[string]int{}}
	for n := 1; n <= 2; n++ {
		v.nodes[n] = &watched{sent: map[api.Key]api.Frame{}, cursors: map[int]*cursor{}, epoch: 2, up: true}
	}
	return v
}

func (v *watch) fails(promise, what string, with ...any) {
	v.t.Helper()
	var last []string
	for _, s := range v.row[max(0, len(v.row)-12):] {
		last = append(last, fmt.Sprintf("%d: node %d, stream %d, time %d, life %d, %d bytes, seq %d, quota %v, way %d, place %d, at %d, mask %d, ticks %d, choices %v, cursor %d, to %d",
			s.Kind, s.Node, s.Stream, s.Time, s.Life, len(s.Data), s.Seq, s.Quota, s.Way, s.Place, s.At, s.Mask, s.Ticks, s.Choices, s.Cursor, s.To))
	}
	v.t.Fatalf("%s: behind %d steps, in a world of %+v, of which the last are\n%s\n%s", promise, len(v.row), v.setup, strings.Join(last, "\n"), fmt.Sprintf(what, with...))
}

// step: one step, and all that must hold of it and behind it.
func (v *watch) step(s world.Step) world.Seen {
	v.t.Helper()
	v.row = append(v.row, s)
	x, e := v.Do(s)
	if e != api.OK {
		v.fails("P2003", "Do = %v", e)
	}
	if x.Error != api.OK && s.Kind != world.Tick && !same(x, failed(x.Error)) {
		v.fails("P2003", "beside an error it came to %+v", x)
	}
	v.ways(s, x)
	for n := 1; n <= 2; n++ {
		v.node(n, s, x)
	}
	v.looks(s, x)
	return x
}

// isOf: is the step a call of that node?
func isOf(n int, s world.Step) bool {
	switch s.Kind {
	case world.Tick:
		return true
	case world.Deliver:
		return s.Node == 3-n
	case world.Drop, world.Double, world.Turn:
		return false
	}
	return s.Node == n
}

// nothing: a step by which no node's backlog and database change.
func nothing() world.Step { return world.Step{Kind: world.Cut} }

// node: what became of one in a step.
func (v *watch) node(n int, s world.Step, x world.Seen) {
	v.t.Helper()
	was, up := v.nodes[n], v.Node(n).Up()
	switch {
	case was.up && !up:
		v.fell(n, s, x)
	case !was.up && up:
		v.gotUp(n, s, x)
	case up:
		does := s
		if !isOf(n, s) || x.Error != api.OK && s.Kind != world.Tick {
			does = nothing()
		}
		done := slices.DeleteFunc(slices.Clone(x.Done), func(d world.Told) bool { return d.Node != n })
		v.backlog(n, does, x, done)
		v.database(n, does, v.Now(), false)
	}
	if up {
		v.shown(n, s, x)
		v.bounds(n)
	}
	was.up = up
}

// fell: what became of the step that broke off is known only behind the Restart.
func (v *watch) fell(n int, s world.Step, x world.Seen) {
	v.t.Helper()
	was := v.nodes[n]
	clear(was.cursors)
	if s.Kind == world.Crash && s.Node == n {
		return
	}
	if !isOf(n, s) || x.Error != api.ErrPower {
		v.fails("P2003", "node %d fell, and the step came to %+v", n, x)
	}
	v.tally["falls"]++
	was.fall = &fall{s, v.Now()}
	if s.Kind == world.Send {
		was.loose = append(was.loose, frame(s.Stream, s.Time, 0, s.Life, string(s.Data)))
	}
}

// gotUp: it has what it had behind the last call that answered OK, and perhaps a first part of what the one has done that broke off.
func (v *watch) gotUp(n int, s world.Step, x world.Seen) {
	v.t.Helper()
	was := v.nodes[n]
	epoch := v.Node(n).Service().State().Epoch
	if s.Kind != world.Restart || s.Node != n || x.Error != api.OK || epoch <= was.epoch {
		v.fails("P4", "node %d is up, with the epoch %d behind %d", n, epoch, was.epoch)
	}
	broken := fall{step: nothing()}
	if was.fall != nil {
		broken = *was.fall
	}
	v.backlogBehind(n, broken)
	v.database(n, broken.step, broken.now, true)
	was.fall, was.epoch = nil, epoch
}

func keyOf(f api.Frame) api.Key { return key(f.Stream, f.Stamp.Seq) }

func byStamp(a, b api.Frame) int {
	switch {
	case a.Stamp.Less(b.Stamp):
		return -1
	case b.Stamp.Less(a.Stamp):
		return 1
	}
	return 0
}

func isIn(l []api.Frame, f api.Frame) bool {
	return slices.ContainsFunc(l, func(g api.Frame) bool { return sameFrame(f, g) })
}

// without: those of one list that are not in another one.
func without(l, m []api.Frame) (out []api.Frame) {
	for _, f := range l {
		if !isIn(m, f) {
			out = append(out, f)
		}
	}
	return out
}

func sameFrames(l, m []api.Frame) bool { return slices.EqualFunc(l, m, sameFrame) }

func overAt(l []api.Frame, now uint64) (over []api.Frame) {
	for _, f := range l {
		if f.Over(now) {
			over = append(over, f)
		}
	}
	return over
}

// mayBeOf: was it sent by that node, or would a Send that broke off have sent it?
func (v *watch) mayBeOf(n int, f api.Frame) bool {
	was := v.nodes[n]
	if g, known := was.sent[keyOf(f)]; known && sameFrame(f, g) {
		return true
	}
	f.Stamp.Seq = 0
	return isIn(was.loose, f)
}

// kept: the frames of a node's backlog, as they came.
func (v *watch) kept(n int) (all []api.Frame) {
	l := v.Node(n).Service().Backlog()
	for _, k := range l.Keys() {
		f, _ := l.Get(k)
		all = append(all, f)
	}
	return all
}

// backlog: a Send's frame came; what went is what was told, and nothing else.
func (v *watch) backlog(n int, s world.Step, x world.Seen, done []world.Told) {
	v.t.Helper()
	was, is := v.nodes[n], v.kept(n)
	want := slices.Clone(was.backlog)
	if s.Kind == world.Send {
		f := frame(s.Stream, s.Time, x.Key.Seq, s.Life, string(s.Data))
		if _, twice := was.sent[x.Key]; twice || x.Key.Stream != s.Stream {
			v.fails("P907", "a Send's key is %v", x.Key)
		}
		was.sent[x.Key] = f
		want = append(want, f)
	}
	over := overAt(want, v.Now())
	for _, d := range done {
		at := slices.IndexFunc(want, func(f api.Frame) bool { return keyOf(f) == d.Done.Key })
		if at < 0 {
			v.fails("P4", "node %d was told %v, and its backlog has %v", n, d, want)
		}
		v.told(n, s, d.Done, want[at])
		want = slices.Delete(want, at, at+1)
	}
	if s.Kind == world.Tick && len(over) != len(done) {
		v.fails("P1707", "%v are over at node %d, and it was told %v", over, n, done)
	}
	if !sameFrames(is, want) {
		v.fails("P4", "the backlog of node %d has %v, want %v", n, is, want)
	}
	was.backlog = is
}

// told: what a Done says is so: what is stored is in the other one's database, or was.
func (v *watch) told(n int, s world.Step, d api.Done, f api.Frame) {
	v.t.Helper()
	good := d.Code >= api.Stored && d.Code <= api.TooOld && s.Kind == world.Deliver
	switch d.Code {
	case api.Stored:
		v.tally["stored"]++
		good = good && isIn(v.nodes[3-n].ever, f)
	case api.TooLate:
		good = good && f.Over(v.Now())
	case api.Expired:
		good = s.Kind == world.Tick && f.Over(v.Now())
	case api.Cancelled:
		good = s.Kind == world.Cancel && d.Key == key(s.Stream, s.Seq)
	}
	if !good {
		v.fails("P4", "of %v node %d was told %d", f, n, d.Code)
	}
}

// backlogBehind: a fall: what the step that broke off was about may be done, or not; nothing else.
func (v *watch) backlogBehind(n int, broken fall) {
	v.t.Helper()
	was, is := v.nodes[n], v.kept(n)
	came, went := without(is, was.backlog), without(was.backlog, is)
	good := len(came) == 0 && len(went) == 0
	if !good {
		v.tally["done in a fall"]++
	}
	switch s := broken.step; s.Kind {
	case world.Send:
		good = len(went) == 0 && len(came) <= 1 && (len(came) == 0 || v.mayBeOf(n, came[0]))
	case world.Cancel:
		good = len(came) == 0 && (len(went) == 0 || len(went) == 1 && keyOf(went[0]) == key(s.Stream, s.Seq))
	case world.Deliver:
		good = len(came) == 0 && len(went) <= 1
	case world.Tick:
		over := overAt(was.backlog, broken.now)
		good = len(came) == 0 && len(went) <= len(over) && sameFrames(went, over[:len(went)])
	}
	if !good || !sameFrames(is, slices.Concat(without(was.backlog, went), came)) {
		v.fails("P4", "behind a fall in %+v the backlog of node %d has %v, and had %v", broken.step, n, is, was.backlog)
	}
	was.backlog = is
}

// database: what a step has done with it is just what the rules say; where it broke off, perhaps a first part of it.
func (v *watch) database(n int, s world.Step, now uint64, partly bool) {
	v.t.Helper()
	was, db := v.nodes[n], v.Node(n).Service().DB()
	stored := 0
	left := s.Kind == world.Tick && len(overAt(was.backlog, now)) > 0 // something that is over was left, so nothing behind it went
	for i := range was.streams {
		old := was.streams[i]
		var is stream
		is.quota, is.heard = db.Quota(i)
		is.frames = slices.Collect(db.Frames(i))
		stored += len(without(is.frames, old.frames))
		if !v.follows(n, i, s, now, old, is) && !(partly && old.same(is)) {
			v.fails("P3", "behind %+v stream %d of node %d is %+v, and was %+v", s, i, n, is, old)
		}
		if s.Kind == world.Tick && len(overAt(old.frames, now)) > 0 {
			if left && !old.same(is) {
				v.fails("P4", "behind %+v stream %d of node %d is %+v, and was %+v, though something ahead of that was not done", s, i, n, is, old)
			}
			left = left || old.same(is)
		}
		was.ever = append(was.ever, without(is.frames, was.ever)...)
		was.streams[i] = is
	}
	if stored > 1 {
		v.fails("P3", "node %d has stored %d frames", n, stored)
	}
}

func (a stream) same(b stream) bool {
	return a.heard == b.heard && a.quota == b.quota && sameFrames(a.frames, b.frames)
}

func (a stream) holds() bool {
	bytes := 0
	for _, f := range a.frames {
		bytes += len(f.Data)
	}
	return len(a.frames) <= a.quota.Count && bytes <= a.quota.Bytes
}

// follows: is that what a stream is behind a step, if it was this ahead of it?
func (v *watch) follows(n, i int, s world.Step, now uint64, old, is stream) bool {
	v.t.Helper()
	for j, f := range is.frames {
		if f.Stream != i || j > 0 && !is.frames[j-1].Stamp.Less(f.Stamp) {
			return false
		}
	}
	switch {
	case s.Kind == world.Deliver:
		return v.stores(n, old, is)
	case s.Kind == world.Tick:
		old.frames = without(old.frames, overAt(old.frames, now))
	case s.Kind == world.Unlisten && s.Stream == i:
		old = stream{}
	case s.Kind == world.Listen && s.Stream == i:
		old = stream{quota: s.Quota, heard: true}
	}
	return old.same(is)
}

// stores: at most one frame came, and just so many of the least ones rolled out that the quota holds.
func (v *watch) stores(n int, old, is stream) bool {
	v.t.Helper()
	came, went := without(is.frames, old.frames), without(old.frames, is.frames)
	if len(came) == 0 {
		return old.same(is)
	}
	if len(came) > 1 || !v.mayBeOf(3-n, came[0]) || old.heard != is.heard || old.quota != is.quota || !is.holds() {
		return false
	}
	all := append(slices.Clone(old.frames), came[0])
	slices.SortFunc(all, byStamp)
	if len(went) > 0 {
		v.tally["rolled out"]++
		more := is
		more.frames = all[len(went)-1:]
		if more.holds() {
			return false
		}
	}
	return sameFrames(is.frames, all[len(went):])
}

// shown: rising through all lives; each is as it was sent by a Send that answered OK, and is stored.
func (v *watch) shown(n int, s world.Step, x world.Seen) {
	v.t.Helper()
	if s.Kind != world.Deliver && len(x.Shown) > 0 {
		v.fails("P2003", "of no Deliver %v is shown", x.Shown)
	}
	if s.Kind != world.Deliver || s.Node == n {
		return
	}
	was := v.nodes[n]
	for _, f := range x.Shown {
		v.tally["shown"]++
		if g, known := v.nodes[3-n].sent[keyOf(f)]; !known || !sameFrame(f, g) {
			v.fails("P2", "node %d shows %v, which was not sent", n, f)
		}
		if l := was.shown[f.Stream]; len(l) > 0 && !l[len(l)-1].Less(f.Stamp) {
			v.fails("P2", "node %d shows %v behind %v", n, f, l)
		}
		if !isIn(was.streams[f.Stream].frames, f) {
			v.fails("P4", "node %d shows %v, and does not have it", n, f)
		}
		was.shown[f.Stream] = append(was.shown[f.Stream], f.Stamp)
	}
}

// bounds: of a node that is up.
func (v *watch) bounds(n int) {
	v.t.Helper()
	x := v.Node(n)
	s := x.Service().State()
	for i, l := range v.nodes[n].streams {
		if frames, bytes := x.Service().DB().Count(i); !l.holds() || frames > l.quota.Count || bytes > l.quota.Bytes {
			v.fails("P7", "stream %d of node %d is %+v", i, n, l)
		}
	}
	places := len(s.Express) + len(s.Freight) + len(s.Waiting) + len(s.Resting)
	kept := len(v.nodes[n].backlog)
	if kept > api.MaxPending || places != kept || len(s.Freight) > v.setup.Config.Window || len(s.Open) > v.setup.Config.Inbox {
		v.fails("P7", "node %d has %d frames, and %+v", n, kept, s)
	}
	if x.Disk().Sectors() != v.setup.Sectors || len(x.Player().Cursors()) > api.MaxCursors {
		v.fails("P7", "node %d has %d sectors and the cursors %v", n, x.Disk().Sectors(), x.Player().Cursors())
	}
	if s.Now != v.Now() && isOf(n, v.row[len(v.row)-1]) && v.row[len(v.row)-1].Kind == world.Tick {
		v.fails("P2003", "the clock of node %d is at %d, and the world's at %d", n, s.Now, v.Now())
	}
}

// ways: what is under way was sent, or is a double of it, with one burst at most.
func (v *watch) ways(s world.Step, x world.Seen) {
	v.t.Helper()
	if hasWay(s.Kind) {
		v.befalls(s, x)
	}
	sent, full := 0, false
	for n := 1; n <= 2; n++ {
		for way := 1; way <= 2; way++ {
			is, was := v.Way(n, way), v.rows[n][way]
			full = full || len(is) == v.setup.Room
			if len(is) < len(was) || len(is) > v.setup.Room {
				v.fails("P7", "on way %d away from %d are %d datagrams, and were %d", way, n, len(is), len(was))
			}
			for i, d := range was {
				if !bytes.Equal(is[i], d.now) {
					v.fails("P2006", "at the place %d of way %d away from %d is %v, want %v", i, way, n, is[i], d.now)
				}
			}
			for _, b := range is[len(was):] {
				sent++
				v.isFrom(n, way, s, b)
				was = append(was, travels{sent: b, now: b})
			}
			v.rows[n][way] = was
		}
	}
	if sent != x.Sent || x.Lost < 0 || x.Lost > 0 && !full {
		v.fails("P2003", "%d datagrams came onto the ways, and it came to %+v", sent, x)
	}
}

// isFrom: is it a unit that this node may have sent by that way in this step?
func (v *watch) isFrom(n, way int, s world.Step, b []byte) {
	v.t.Helper()
	u, e := pdu.Decode(b)
	x := v.Node(n)
	good := e == api.OK && isOf(n, s) && x.Up() && (u.Kind == api.Data && u.Path == way || u.Kind != api.Data && way == 2)
	if !good || u.Kind != api.Report && u.Epoch != x.Service().State().Epoch {
		v.fails("P2006", "onto way %d away from %d came %+v, %v", way, n, u, e)
	}
}

// befalls: what a step does to a datagram.
func (v *watch) befalls(s world.Step, x world.Seen) {
	v.t.Helper()
	row := &v.rows[s.Node][s.Way]
	if s.Place < 0 || s.Place >= len(*row) {
		if x.Error != api.ErrNone {
			v.fails("P2003", "at no place it came to %+v", x)
		}
		return
	}
	d := (*row)[s.Place]
	switch {
	case s.Kind == world.Drop || s.Kind == world.Deliver:
		*row = slices.Delete(slices.Clone(*row), s.Place, s.Place+1)
		if _, e := pdu.Decode(d.now); s.Kind == world.Deliver && (e != api.OK) != d.turned || d.turned == bytes.Equal(d.now, d.sent) {
			v.fails("P2006", "a datagram that was sent as %v is %v", d.sent, d.now)
		} else if s.Kind == world.Deliver && d.turned && x.Error != api.ErrSeal && v.nodes[3-s.Node].up && x.Error != api.ErrPower {
			v.fails("P2003", "a datagram that was turned came to %+v", x)
		}
	case x.Error != api.OK:
	case s.Kind == world.Double:
		*row = append(slices.Clone(*row), d)
	case s.Kind == world.Turn:
		if d.turned || bits.OnesCount32(s.Mask) == 0 {
			v.fails("P2006", "a datagram was turned twice, or not at all")
		}
		(*row)[s.Place] = travels{sent: d.sent, now: octet.Burst(d.sent, s.At, s.Mask), turned: true}
	}
}

// looks: cursors go over just what is there.
func (v *watch) looks(s world.Step, x world.Seen) {
	v.t.Helper()
	if s.Kind < world.OpenCursor || s.Kind == world.Gaps {
		return
	}
	was, up := v.nodes[s.Node], v.Node(s.Node).Up()
	if s.Kind == world.OpenCursor {
		if x.Error == api.OK {
			was.cursors[x.Cursor] = &cursor{stream: s.Stream}
		}
		return
	}
	c, open := was.cursors[s.Cursor]
	want := api.OK
	var found *api.Frame
	switch {
	case !up:
		want = api.ErrDown
	case !open:
		want = api.ErrCursor
	case s.Kind == world.CloseCursor:
		delete(was.cursors, s.Cursor)
	case s.Kind == world.Rewind:
		c.place = nil
	default:
		found = c.find(s, was.streams[c.stream].frames)
		if found == nil {
			want = api.ErrNone
			break
		}
		v.tally["found"]++
		c.place = &found.Stamp
	}
	if x.Error != want || found == nil && !sameFrame(x.Frame, api.Frame{}) || found != nil && !sameFrame(x.Frame, *found) {
		v.fails("P6", "it came to %+v, want %v, %+v", x, want, found)
	}
}

// find: the frame to which a step takes the cursor, of those that are there.
func (c *cursor) find(s world.Step, l []api.Frame) *api.Frame {
	var last *api.Frame
	for i, f := range l {
		switch {
		case s.Kind == world.Seek && f.Stamp.Time >= s.Time, s.Kind == world.Next && (c.place == nil || c.place.Less(f.Stamp)):
			return &l[i]
		case s.Kind == world.Prev && c.place != nil && f.Stamp.Less(*c.place):
			last = &l[i]
		}
	}
	return last
}
