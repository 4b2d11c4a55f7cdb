package mail

import "penstock/api"

// ring is one channel: a list of fixed length, whose places are counted from the first message on, around the end of the list.
type ring struct {
	slots []api.Message
	first int
	count int
}

func newRing(room int) ring { return ring{slots: make([]api.Message, room)} }

func (r *ring) full() bool { return r.count == len(r.slots) }

func (r *ring) empty() bool { return r.count == 0 }

// slot is where the list has a place.
func (r *ring) slot(place int) int { return (r.first + place) % len(r.slots) }

func (r *ring) write(place int, m api.Message) {
	copy(r.slots[r.slot(place):], []api.Message{m})
}

// put appends m; there must be room for it.
func (r *ring) put(m api.Message) {
	r.write(r.count, m)
	r.count++
}

// take removes the first message; there must be one.
func (r *ring) take() api.Message {
	m := r.slots[r.first]
	r.write(0, api.Message{}) // or the list would go on holding what was taken
	r.first = r.slot(1)
	r.count--
	return m
}
