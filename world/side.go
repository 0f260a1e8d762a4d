package world

import (
	"halyard/api"
	"halyard/ether"
	"halyard/node"
	"halyard/pdu"
)

// side: a node, and the ways away from it.
type side struct {
	number int
	node   *node.Node    // nil, if New did not make the world
	ways   [2]*ether.Way // by their numbers, less 1
}

// start: a new node with that number, its ways empty. The room was looked at before, so no way is refused.
func (d *side) start(s Setup, number int) (e api.Errno) {
	d.number = number
	for i := range d.ways {
		d.ways[i], _ = ether.New(s.Room)
	}
	d.node, e = node.New(s.Config, uint64(number), uint64(3-number), s.Sectors, s.Start)
	return e
}

// way: away from the node, by its number: api's number of the path.
func (d *side) way(number int) *ether.Way { return d.ways[number-1] }

// look: the datagrams of a way.
func (d *side) look(number int) (row [][]byte) {
	way := d.way(number)
	for i := range way.Len() {
		b, _ := way.Look(i) // there is such a place
		row = append(row, b)
	}
	return row
}

// letOut: what came of a call of the node: the units go onto the ways, all else is told. Where a step is several calls, the first error stays.
func (d *side) letOut(seen *Seen, e api.Errno, units []api.Unit, shown []api.Frame, done []api.Done) {
	if seen.Error == api.OK {
		seen.Error = e
	}
	for _, u := range units {
		if d.send(u) {
			seen.Sent++
		} else {
			seen.Lost++
		}
	}
	seen.Shown = append(seen.Shown, shown...)
	for _, x := range done {
		seen.Done = append(seen.Done, Told{Node: d.number, Done: x})
	}
}

// send: a unit goes onto its way; false, if that is full. A node makes only good units, of which each has bytes, and not too many of them.
func (d *side) send(u api.Unit) bool {
	path := api.Freight
	if u.Kind == api.Data {
		path = u.Path
	}
	b, _ := pdu.Encode(u)
	return d.way(path).Put(b) == api.OK
}
