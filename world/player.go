package world

import "halyard/api"

// ofPlayer: a step that is a call of its node's player: that is there only while the node is up.
func ofPlayer(does func(*World, Step) Seen) func(*World, Step) Seen {
	return func(w *World, s Step) Seen {
		if !w.Node(s.Node).Up() {
			return Seen{Error: api.ErrDown}
		}
		return does(w, s)
	}
}

func (w *World) openCursor(s Step) Seen {
	c, e := w.Node(s.Node).Player().Open(s.Stream)
	return Seen{Error: e, Cursor: c}
}

func (w *World) closeCursor(s Step) Seen {
	return Seen{Error: w.Node(s.Node).Player().Close(s.Cursor)}
}

func (w *World) seek(s Step) Seen {
	f, e := w.Node(s.Node).Player().Seek(s.Cursor, s.Time)
	return Seen{Error: e, Frame: f}
}

func (w *World) next(s Step) Seen {
	f, e := w.Node(s.Node).Player().Next(s.Cursor)
	return Seen{Error: e, Frame: f}
}

func (w *World) prev(s Step) Seen {
	f, e := w.Node(s.Node).Player().Prev(s.Cursor)
	return Seen{Error: e, Frame: f}
}

func (w *World) rewind(s Step) Seen {
	return Seen{Error: w.Node(s.Node).Player().Rewind(s.Cursor)}
}

func (w *World) gaps(s Step) Seen {
	l, e := w.Node(s.Node).Player().Gaps(s.Stream, s.Time, s.To)
	return Seen{Error: e, Gaps: l}
}
