package inbox_test

import (
	"bytes"
	"math/rand"
	"slices"
	"testing"

	"halyard/api"
	"halyard/cutter"
	"halyard/inbox"
	"halyard/pdu"
)

// plain: an inbox as the chapter's sentences tell it: two lists in the order of the touches.
type plain struct {
	mostOpen, mostDecided int
	epoch                 uint64
	open                  []plainOpen
	decided               []plainDecided
}

type plainOpen struct {
	session  inbox.Session
	segments [][]byte // nil: it is not there
}

type plainDecided struct {
	session inbox.Session
	code    int
}

func (p *plain) whereOpen(s inbox.Session) int {
	return slices.IndexFunc(p.open, func(o plainOpen) bool { return o.session == s })
}

func (p *plain) whereDecided(s inbox.Session) int {
	return slices.IndexFunc(p.decided, func(d plainDecided) bool { return d.session == s })
}

func (p *plain) rise(epoch uint64) {
	if epoch > p.epoch {
		p.epoch, p.open, p.decided = epoch, nil, nil
	}
}

// goes: does a box with these segments, put in any order, take one more?
func goes(segments [][]byte, index int, segment []byte) bool {
	box, _ := cutter.New(len(segments))
	for i, s := range segments {
		if s != nil {
			box.Put(i, s)
		}
	}
	e := box.Put(index, segment)
	return e == api.OK || e == api.ErrTwice
}

func (p *plain) take(u api.Unit) inbox.Answer {
	if u.Kind != api.Data || pdu.Valid(u) != api.OK {
		return inbox.Answer{State: inbox.Wrong}
	}
	if u.Epoch < p.epoch {
		return inbox.Answer{State: inbox.Stale}
	}
	p.rise(u.Epoch)
	s := inbox.Session{Epoch: u.Epoch, Number: u.Session}
	if i := p.whereDecided(s); i >= 0 {
		d := p.decided[i]
		p.decided = append(slices.Delete(p.decided, i, i+1), d)
		return inbox.Answer{State: inbox.Decided, Code: d.code}
	}
	o := plainOpen{s, make([][]byte, u.Count)}
	i := p.whereOpen(s)
	if i >= 0 {
		o = p.open[i]
	}
	if u.Count != len(o.segments) || !goes(o.segments, u.Index, u.Data) {
		return inbox.Answer{State: inbox.Wrong}
	}
	o.segments[u.Index] = bytes.Clone(u.Data)
	if i >= 0 {
		p.open = slices.Delete(p.open, i, i+1)
	} else if len(p.open) == p.mostOpen {
		p.open = p.open[1:]
	}
	p.open = append(p.open, o)
	return o.told()
}

func (o plainOpen) told() inbox.Answer {
	var got []api.Range
	var block []byte
	for i, s := range o.segments {
		if s != nil {
			got = pdu.Add(got, i)
			block = append(block, s...)
		}
	}
	if pdu.Total(got) == len(o.segments) {
		return inbox.Answer{State: inbox.Whole, Block: block}
	}
	return inbox.Answer{State: inbox.Partial, Got: got}
}

func (p *plain) decide(s inbox.Session, code int) api.Errno {
	if code < 1 || code > 7 || s.Epoch == 0 || s.Epoch > api.MaxNumber || s.Number == 0 || s.Number > api.MaxNumber {
		return api.ErrArg
	}
	if s.Epoch < p.epoch {
		return api.ErrOld
	}
	if p.whereDecided(s) >= 0 {
		return api.ErrTwice
	}
	p.rise(s.Epoch)
	p.drop(s)
	p.decided = append(p.decided, plainDecided{s, code})
	if len(p.decided) > p.mostDecided {
		p.decided = p.decided[1:]
	}
	return api.OK
}

func (p *plain) drop(s inbox.Session) bool {
	i := p.whereOpen(s)
	if i >= 0 {
		p.open = slices.Delete(p.open, i, i+1)
	}
	return i >= 0
}

// both: an inbox and the plain one, called alike.
type both struct {
	t *testing.T
	x *inbox.Inbox
	p *plain
}

func start(t *testing.T, open, decided int) both {
	t.Helper()
	return both{t, fresh(t, open, decided), &plain{mostOpen: open, mostDecided: decided}}
}

func (b both) take(u api.Unit) inbox.Answer {
	b.t.Helper()
	got, want := b.x.Take(u), b.p.take(u)
	if !sameAnswer(got, want) {
		b.t.Fatalf("P1303: Take(%+v) = %+v, want %+v", u, got, want)
	}
	b.same()
	return got
}

func (b both) decide(s inbox.Session, code int) api.Errno {
	b.t.Helper()
	got, want := b.x.Decide(s, code), b.p.decide(s, code)
	if got != want {
		b.t.Fatalf("P1304: Decide(%v, %d) = %v, want %v", s, code, got, want)
	}
	b.same()
	return got
}

func (b both) drop(s inbox.Session) {
	b.t.Helper()
	if got, want := b.x.Drop(s), b.p.drop(s); got != want {
		b.t.Fatalf("P1305: Drop(%v) = %v", s, got)
	}
	b.same()
}

// same: what can be asked of both is the same; and the bounds hold.
func (b both) same() {
	b.t.Helper()
	open, decided := b.x.Open(), b.x.Decided()
	var wantOpen, wantDecided []inbox.Session
	for _, o := range b.p.open {
		wantOpen = append(wantOpen, o.session)
	}
	for _, d := range b.p.decided {
		wantDecided = append(wantDecided, d.session)
	}
	if b.x.Epoch() != b.p.epoch || !slices.Equal(open, wantOpen) || !slices.Equal(decided, wantDecided) {
		b.t.Fatalf("P1306: Epoch %d, Open %v, Decided %v, want %d, %v, %v", b.x.Epoch(), open, decided, b.p.epoch, wantOpen, wantDecided)
	}
	if len(open) > b.p.mostOpen || len(decided) > b.p.mostDecided {
		b.t.Fatalf("P1309: %d open, %d decided sessions", len(open), len(decided))
	}
	seen := map[inbox.Session]bool{}
	for _, s := range append(open, decided...) {
		if seen[s] || s.Epoch != b.x.Epoch() {
			b.t.Fatalf("P1309: %v twice, or not of the epoch %d", s, b.x.Epoch())
		}
		seen[s] = true
	}
}

// calls: a few of each kind, so that rows of them meet one another.
func calls() []func(b both) {
	take := func(epoch, session uint64, index, count int, text string) func(b both) {
		return func(b both) { b.take(data(epoch, session, index, count, text)) }
	}
	decide := func(epoch, number uint64, code int) func(b both) {
		return func(b both) { b.decide(inbox.Session{Epoch: epoch, Number: number}, code) }
	}
	drop := func(epoch, number uint64) func(b both) {
		return func(b both) { b.drop(inbox.Session{Epoch: epoch, Number: number}) }
	}
	return []func(b both){
		take(1, 1, 0, 2, "a"), take(1, 1, 1, 2, "b"), take(1, 1, 0, 2, "c"), take(1, 1, 0, 1, "a"),
		take(1, 2, 0, 2, "a"), take(1, 2, 1, 2, "bb"), take(1, 3, 0, 1, "d"), take(1, 4, 63, 64, textA+"x"),
		take(2, 1, 1, 2, "b"), take(2, 2, 63, 64, textA+"x"), take(2, 1, 2, 2, "b"),
		decide(1, 1, 1), decide(1, 2, 7), decide(1, 3, 2), decide(2, 1, 3), decide(2, 2, 0),
		drop(1, 1), drop(1, 2), drop(2, 1),
	}
}

// TestEachRowOfCalls: each row of four calls, on inboxes of little room.
func TestEachRowOfCalls(t *testing.T) {
	all := calls()
	n := len(all)
	for _, room := range [][2]int{{1, 1}, {2, 1}, {1, 2}, {2, 2}} {
		for row := range n * n * n * n {
			b := start(t, room[0], room[1])
			for k, i := row, 0; i < 4; i++ {
				all[k%n](b)
				k /= n
			}
		}
	}
}

// TestManyShortRows: longer rows of the same calls.
func TestManyShortRows(t *testing.T) {
	all := calls()
	for seed := range int64(20000) {
		r := rand.New(rand.NewSource(seed))
		b := start(t, 1+r.Intn(3), 1+r.Intn(3))
		for range 20 {
			all[r.Intn(len(all))](b)
		}
	}
}

// chance: calls by chance on sessions of a few epochs, with blocks that hang on the session alone but for some faults.
type chance struct {
	r        *rand.Rand
	epoch    uint64
	sessions int
}

func (c *chance) session() inbox.Session {
	s := inbox.Session{Epoch: c.epoch, Number: 1 + uint64(c.r.Intn(c.sessions))}
	switch c.r.Intn(40) {
	case 0:
		c.epoch += uint64(c.r.Intn(3))
	case 1:
		s.Epoch -= min(s.Epoch, uint64(c.r.Intn(3)))
	case 2:
		s.Number = []uint64{0, api.MaxNumber, api.MaxNumber + 1}[c.r.Intn(3)]
	}
	return s
}

func (c *chance) unit() api.Unit {
	s := c.session()
	count := 1 + int(s.Number*s.Epoch)%7
	u := data(s.Epoch, s.Number, c.r.Intn(count), count, "")
	u.Path = 1 + c.r.Intn(2)
	u.Data = bytes.Repeat([]byte{byte(s.Number), byte(u.Index)}, 1+int(s.Number)%5)
	if u.Index == count-1 {
		u.Data = u.Data[:1]
	}
	switch c.r.Intn(30) {
	case 0:
		u.Data[0]++
	case 1:
		u.Count = c.r.Intn(66)
	case 2:
		u.Data = make([]byte, c.r.Intn(1026))
	case 3:
		u.Index = c.r.Intn(10) - 1
	case 4:
		u.Kind = c.r.Intn(5)
	}
	return u
}

func (c *chance) call(b both) {
	switch c.r.Intn(12) {
	case 0:
		b.drop(c.session())
	case 1:
		b.decide(c.session(), c.r.Intn(9))
	default:
		u := c.unit()
		if a := b.take(u); a.State == inbox.Whole && c.r.Intn(2) == 0 {
			b.decide(inbox.Session{Epoch: u.Epoch, Number: u.Session}, 1+c.r.Intn(7))
		}
	}
}

// TestAgainstThePlainOne: long rows of any calls, on inboxes of any room.
func TestAgainstThePlainOne(t *testing.T) {
	for seed := range int64(300) {
		r := rand.New(rand.NewSource(seed))
		b := start(t, 1+r.Intn(1+r.Intn(64)), 1+r.Intn(1+r.Intn(200)))
		c := &chance{r, 1 + uint64(r.Intn(3)), 1 + r.Intn(1+r.Intn(100))}
		for range 400 {
			c.call(b)
		}
	}
}

// TestFarNumbers: sessions whose numbers differ in high bits alone.
func TestFarNumbers(t *testing.T) {
	b := start(t, 64, 64)
	for i := range 48 {
		b.take(data(1<<47, 1<<i, 0, 2, "a"))
	}
	for i := range 48 {
		b.decide(inbox.Session{Epoch: 1 << 47, Number: 1<<48 - 1 - 1<<i}, 1+i%7)
	}
	for i := range 48 {
		b.take(data(1<<47, 1<<i, 1, 2, string(rune('a'+i%26))))
		b.take(data(1<<47, 1<<48-1-1<<i, 1, 2, "b"))
	}
}
