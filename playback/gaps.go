package playback

import (
	"slices"

	"halyard/api"
)

// Gaps: the runs of numbers that are missing between neighbours of a stream whose times are from a to b.
func (p *Player) Gaps(stream int, a, b uint64) ([]api.Gap, api.Errno) {
	if !p.made() || !isStream(stream) {
		return nil, api.ErrArg
	}
	var all, within []uint64
	for f := range p.handOver(stream) {
		all = append(all, f.Stamp.Seq)
		if a <= f.Stamp.Time && f.Stamp.Time <= b {
			within = append(within, f.Stamp.Seq)
		}
	}
	if len(within) == 0 {
		return nil, api.OK
	}
	slices.Sort(all)
	return missing(all, slices.Min(within), slices.Max(within)), api.OK
}

// handOver: the frames of a stream. That the channel is closed is the goroutine's last act: so it is over for whoever ranges to the end, and nobody may leave earlier.
func (p *Player) handOver(stream int) <-chan api.Frame {
	frames := make(chan api.Frame)
	go func() {
		defer close(frames)
		for f := range p.db.Frames(stream) {
			frames <- f
		}
	}()
	return frames
}

// missing: the gaps from one number to another, both of which are among all that are there, in order. As a number counts as there whatever its time is, a gap lies between two neighbours of all of them; they may be the same number, with two times.
func missing(all []uint64, from, to uint64) (gaps []api.Gap) {
	for i := 1; i < len(all); i++ {
		n, m := all[i-1], all[i]
		if from <= n && m <= to && m-n > 1 {
			gaps = append(gaps, api.Gap{From: n + 1, To: m - 1})
		}
	}
	return gaps
}
