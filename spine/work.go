package spine

import "slices"

// worker is a spine that is worked on, and the fuel that is left.
type worker struct {
	*Spine
	fuel int
}

// Work puts batches together, by so much.
func (s *Spine) Work(fuel int) int {
	w := &worker{s, max(fuel, 0)}
	steps := []func() bool{w.begin, w.pay, w.replace}
	for w.fuel > 0 {
		for _, step := range steps {
			if !step() {
				return w.fuel
			}
		}
	}
	return w.fuel
}

// begin begins to merge, unless a pair is being merged; false, if none is due.
func (w *worker) begin() bool {
	if w.merging == nil {
		w.merging = w.lastDue()
	}
	return w.merging != nil
}

// lastDue is the last pair that is due; nil, if there is none.
func (s *Spine) lastDue() *pair {
	for i := len(s.batches) - 2; i >= 0; i-- {
		if older, younger := s.batches[i], s.batches[i+1]; older.due(younger) {
			return pairOf(older, younger, i)
		}
	}
	return nil
}

// pay spends fuel on the pair that is being merged; false, if it costs more.
func (w *worker) pay() bool {
	for w.fuel > 0 && w.merging.owed() > 0 {
		w.merging.take()
		w.fuel--
	}
	return w.merging.owed() == 0
}

// replace puts what was merged in the place of both batches: those behind them have come later, so that the place is still theirs.
func (w *worker) replace() bool {
	var merged []batch
	if b := w.merging.merged(w.since); b.size() > 0 {
		merged = append(merged, b)
	}
	w.batches = slices.Replace(w.batches, w.merging.place, w.merging.place+2, merged...)
	w.merging = nil
	return true
}
