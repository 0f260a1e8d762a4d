package streamdb

import "halyard/api"

// offer: a frame that is to be inserted, and when.
type offer struct {
	db    *DB
	frame api.Frame
	now   uint64
}

// question: one that Insert asks of an offer, and what it answers where it is so.
type question struct {
	asks   func(offer) bool
	answer api.Errno
}

// questions: in their order. Each is asked only if none ahead of it was so: from the second one on there is such a stream.
func questions() []question {
	return []question{
		{offer.notGood, api.ErrArg},
		{offer.unheard, api.ErrStream},
		{offer.tooGreat, api.ErrSize},
		{offer.over, api.ErrExpired},
		{offer.atFloor, api.ErrOld},
		{offer.there, api.ErrTwice},
		{offer.leavesAtOnce, api.ErrOld},
	}
}

// stream: of the frame.
func (o offer) stream() *stream { return o.db.stream(o.frame.Stream) }

func (o offer) notGood() bool {
	f := o.frame
	return o.stream() == nil || max(f.Stamp.Time, f.Stamp.Seq, f.Life) > api.MaxNumber || len(f.Data) > api.MaxData
}

func (o offer) unheard() bool { return !o.stream().heard }

func (o offer) tooGreat() bool { return len(o.frame.Data) > o.stream().quota.Bytes }

func (o offer) over() bool { return o.frame.Over(o.now) }

func (o offer) atFloor() bool { return !o.stream().floor.below(o.frame.Stamp) }

func (o offer) there() bool {
	_, found := o.stream().frames.Get(o.frame.Stamp)
	return found
}

// leavesAtOnce: would it roll out itself, as it and those above it are too many?
func (o offer) leavesAtOnce() bool {
	frames, bytes := o.stream().countFrom(o.frame.Stamp)
	return !holds(o.stream().quota, frames+1, bytes+len(o.frame.Data))
}

// rollsOut: the least frames, till the others and the new one hold the quota. The new one is never among them: it was asked ahead of this.
func (o offer) rollsOut() (gone []api.Frame) {
	frames, bytes := o.stream().countFrom(api.Stamp{})
	frames, bytes = frames+1, bytes+len(o.frame.Data)
	for _, f := range o.stream().frames.Up(api.Stamp{}) {
		if holds(o.stream().quota, frames, bytes) {
			break
		}
		gone = append(gone, f)
		frames, bytes = frames-1, bytes-len(f.Data)
	}
	return gone
}

// take: the frame is there, and the marks rise with it, all in one commit.
func (o offer) take(show bool) (shown bool, e api.Errno) {
	next, gone := o.stream().known, o.rollsOut()
	if len(gone) > 0 {
		next.floor = mark{true, gone[len(gone)-1].Stamp}
	}
	shown = show && next.high.below(o.frame.Stamp)
	if shown {
		next.high = mark{true, o.frame.Stamp}
	}
	if e := o.db.change(o.frame.Stream, next, &o.frame, gone); e != api.OK {
		return false, e
	}
	return shown, api.OK
}
