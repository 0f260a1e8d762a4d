package wheel

import "math/bits"

// The digits of a time, to the base 64: each wheel has a slot for each value of its digit, and eight of them are the 48 bits of a time.
const (
	digit  = 6
	slots  = 1 << digit
	wheels = 8
)

// wheel: a turn of slots, each as long as a whole turn of the wheel below it.
type wheel struct {
	slots  [slots][]timer
	filled uint64 // a bit for each slot that has a timer: so an empty one costs nothing, nor does an empty wheel
}

// place: where a timer stands: on which wheel, in which slot, at which index of it. On no wheel, if it never rings.
type place struct {
	wheel, slot, index int
}

// stand: where a time that is above now stands: on the wheel of the greatest digit that is another one than now's.
// So all that stands on a wheel has now's digits above it, and a slot ahead of the one in which now is:
// and that stays true until now comes to this very slot, or passes it by.
func stand(at, now uint64) (k, slot int) {
	k = (bits.Len64(at^now) - 1) / digit
	return k, int(at >> (k * digit) % slots)
}

// put: the timer, that has not rung at the wheel's time, stands where its time does.
func (w *Wheel) put(t timer) {
	k, s := stand(t.at, w.now)
	p := place{wheel: k, slot: s}
	if k < wheels { // else there is no such time: it is set, and never rings
		p.index = w.wheels[k].add(s, t)
	}
	w.places[t.id] = p
}

// leave: what stood there does so no more; the slot's last one takes its place.
func (w *Wheel) leave(p place) {
	if p.wheel == wheels {
		return
	}
	if moved, some := w.wheels[p.wheel].remove(p.slot, p.index); some {
		w.places[moved.id] = p
	}
}

// turn: the time goes on to now, which is above it: the timers that ring, in no order.
// The wheels below the one on which now stands have made whole turns, so all that was there is over;
// on that one itself all that was passed by is over, and what now has come to is sorted onto the lower ones.
func (w *Wheel) turn(now uint64) (due []timer) {
	k, last := stand(now, w.now)
	w.now = now
	for below := range k {
		due = append(due, w.wheels[below].take(slots-1)...)
	}
	for _, t := range w.wheels[k].take(last) {
		if t.at > now {
			w.put(t)
		} else {
			due = append(due, t)
		}
	}
	return due
}

// add: the timer stands in that slot from now on: at which index of it?
func (x *wheel) add(slot int, t timer) int {
	x.slots[slot] = append(x.slots[slot], t)
	x.filled |= 1 << slot
	return len(x.slots[slot]) - 1
}

// remove: of that slot the timer of that index; which one has moved there, if one has?
func (x *wheel) remove(slot, index int) (moved timer, some bool) {
	last := len(x.slots[slot]) - 1
	if last == 0 {
		x.empty(slot)
		return timer{}, false
	}
	moved = x.slots[slot][last]
	x.slots[slot][index] = moved
	x.slots[slot] = x.slots[slot][:last]
	return moved, index < last
}

// take: all that stands in the slots up to that one; they are empty then.
func (x *wheel) take(last int) (all []timer) {
	for slot, some := x.first(); some && slot <= last; slot, some = x.first() {
		all = append(all, x.slots[slot]...)
		x.empty(slot)
	}
	return all
}

func (x *wheel) empty(slot int) {
	x.slots[slot] = nil
	x.filled &^= 1 << slot
}

// first: the first slot that has a timer. None of them is behind the wheel's time, so its timers are the next ones of this wheel.
func (x *wheel) first() (slot int, some bool) {
	return bits.TrailingZeros64(x.filled), x.filled != 0
}

// next: the least time on this wheel.
func (x *wheel) next() (least uint64, some bool) {
	slot, some := x.first()
	if !some {
		return 0, false
	}
	least = x.slots[slot][0].at
	for _, t := range x.slots[slot] {
		least = min(least, t.at)
	}
	return least, true
}
