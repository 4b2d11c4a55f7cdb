package share

import (
	"penstock/api"
	"penstock/delta"
)

// Handle holds a trace from an epoch on, and reads it bit by bit.
type Handle struct {
	*trace
	held uint64 // as long as it has seen nothing, what it held initially
	seen uint64 // below which it has seen the updates; 0, if it has seen nothing
}

func (h *Handle) dropped() bool {
	_, found := h.handles[h]
	return !found
}

// Next is what came since it was asked last, and up to where.
func (h *Handle) Next() ([]api.Update, uint64, api.Errno) {
	upper := h.upper()
	switch {
	case h.dropped():
		return nil, 0, api.ErrEnded
	case h.seen == 0 && upper <= h.held:
		return nil, h.held, api.OK
	case h.seen == upper: // the spine need not be asked
		return nil, upper, api.OK
	}
	l := h.unseen()
	h.seen = upper
	return l, upper, api.OK
}

// unseen is the updates that it has not seen: SINCE is at most what it holds, so that no other one has got among them.
func (h *Handle) unseen() []api.Update {
	all := h.spine.All()
	if h.seen == 0 {
		return delta.Advance(all, frontier(h.held)) // what is not later comes to the bag there
	}
	var out []api.Update
	for _, u := range all {
		if u.Time.Epoch >= h.seen {
			out = append(out, u)
		}
	}
	return out
}

// Since is what it holds.
func (h *Handle) Since() uint64 { return h.held }

// most is the greatest epoch that it may hold.
func (h *Handle) most() uint64 {
	if h.seen == 0 {
		return h.held
	}
	return h.seen - 1
}

// Allow lets it hold less.
func (h *Handle) Allow(since uint64) api.Errno {
	switch {
	case h.dropped():
		return api.ErrEnded
	case since < h.held || since > h.most():
		return api.ErrShareForm
	}
	h.held = since
	h.settle()
	return api.OK
}

// Drop lets it hold nothing.
func (h *Handle) Drop() {
	delete(h.handles, h)
	h.settle()
}
