package world

import "halyard/api"

// steps: by its kind, how a step is done.
func steps() map[int]func(*World, Step) Seen {
	return map[int]func(*World, Step) Seen{
		Tick:        (*World).tick,
		Listen:      (*World).listen,
		Unlisten:    (*World).unlisten,
		Begin:       (*World).begin,
		Cease:       (*World).cease,
		Send:        (*World).send,
		Cancel:      (*World).cancel,
		Kick:        (*World).kick,
		Deliver:     (*World).deliver,
		Drop:        (*World).drop,
		Double:      (*World).double,
		Turn:        (*World).turn,
		Cut:         (*World).cut,
		Crash:       (*World).crash,
		Restart:     (*World).restart,
		OpenCursor:  ofPlayer((*World).openCursor),
		CloseCursor: ofPlayer((*World).closeCursor),
		Seek:        ofPlayer((*World).seek),
		Next:        ofPlayer((*World).next),
		Prev:        ofPlayer((*World).prev),
		Rewind:      ofPlayer((*World).rewind),
		Gaps:        ofPlayer((*World).gaps),
	}
}

// names: does it name a node and a way, where its kind has one? What has a way has a node, too.
func names(s Step) bool {
	switch s.Kind {
	case Tick:
		return true
	case Deliver, Drop, Double, Turn:
		if !isOne(s.Way) {
			return false
		}
		fallthrough
	default:
		return isOne(s.Node)
	}
}

// tick: the one step that is of both nodes.
func (w *World) tick(s Step) (seen Seen) {
	w.goOn(s.Ticks)
	for i := range w.sides {
		d := &w.sides[i]
		if d.node.Up() {
			x, e := d.node.Tick(w.now)
			d.letOut(&seen, e, x.Units, x.Shown, x.Done)
		}
	}
	return seen
}

func (w *World) listen(s Step) Seen {
	return Seen{Error: w.Node(s.Node).Listen(s.Stream, s.Quota)}
}

func (w *World) unlisten(s Step) Seen {
	return Seen{Error: w.Node(s.Node).Unlisten(s.Stream)}
}

func (w *World) begin(s Step) Seen {
	return Seen{Error: w.Node(s.Node).Begin(s.Stream)}
}

func (w *World) cease(s Step) Seen {
	return Seen{Error: w.Node(s.Node).Cease(s.Stream)}
}

func (w *World) send(s Step) (seen Seen) {
	d := w.side(s.Node)
	k, x, e := d.node.Send(s.Stream, s.Time, s.Life, s.Data, w.now)
	seen.Key = k
	d.letOut(&seen, e, x.Units, x.Shown, x.Done)
	return seen
}

func (w *World) cancel(s Step) (seen Seen) {
	d := w.side(s.Node)
	x, e := d.node.Cancel(api.Key{Stream: s.Stream, Seq: s.Seq}, w.now)
	d.letOut(&seen, e, x.Units, x.Shown, x.Done)
	return seen
}

func (w *World) kick(s Step) (seen Seen) {
	d := w.side(s.Node)
	x, e := d.node.Kick(w.now)
	d.letOut(&seen, e, x.Units, x.Shown, x.Done)
	return seen
}

// deliver: what comes to a node that is down is lost.
func (w *World) deliver(s Step) (seen Seen) {
	b, e := w.side(s.Node).way(s.Way).Take(s.Place)
	if e != api.OK {
		return Seen{Error: e}
	}
	d := w.other(s.Node)
	if d.node.Up() {
		x, e := d.node.Hear(b, w.now)
		d.letOut(&seen, e, x.Units, x.Shown, x.Done)
	}
	return seen
}

func (w *World) drop(s Step) Seen {
	return Seen{Error: w.side(s.Node).way(s.Way).Drop(s.Place)}
}

func (w *World) double(s Step) Seen {
	return Seen{Error: w.side(s.Node).way(s.Way).Double(s.Place)}
}

func (w *World) turn(s Step) Seen {
	return Seen{Error: w.side(s.Node).way(s.Way).Turn(s.Place, s.At, s.Mask)}
}

func (w *World) cut(s Step) Seen {
	w.Node(s.Node).Cut(s.At)
	return Seen{}
}

func (w *World) crash(s Step) Seen {
	w.Node(s.Node).Crash(s.Choices)
	return Seen{}
}

func (w *World) restart(s Step) (seen Seen) {
	d := w.side(s.Node)
	x, e := d.node.Restart(w.now)
	d.letOut(&seen, e, x.Units, x.Shown, x.Done)
	return seen
}
