package playback

import "halyard/api"

// track: what a cursor goes over, and where it stands. Its place is a stamp and no frame: so it stays what it is when the frame goes.
type track struct {
	open   bool
	stream int
	moved  bool // false: it stands ahead of all frames
	place  api.Stamp
}

// above: the least stamp that a frame above the cursor may have. The place is a frame's, whose number is at most MaxNumber: so the next one does not wrap round.
func (t track) above() api.Stamp {
	if !t.moved {
		return api.Stamp{}
	}
	return api.Stamp{Time: t.place.Time, Seq: t.place.Seq + 1}
}

// below: the greatest stamp that a frame below the cursor may have; false, if there is none.
func (t track) below() (api.Stamp, bool) {
	switch {
	case !t.moved || t.place == api.Stamp{}:
		return api.Stamp{}, false
	case t.place.Seq > 0:
		return api.Stamp{Time: t.place.Time, Seq: t.place.Seq - 1}, true
	}
	return api.Stamp{Time: t.place.Time - 1, Seq: api.MaxNumber}, true
}
