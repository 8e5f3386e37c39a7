package ship

import (
	"iter"

	"barrage/api"
)

// allow finds out, once for all orders, which passages after a tick have nothing wrong with them alone; where a ship is held is left open.
func (h *harbour) allow(after int) {
	h.fitting = make([][]voyage, len(h.Ships))
	for ship, s := range h.Ships {
		for i := range h.Levels.Values {
			start := h.Levels.From + i
			for opening := range h.Openings {
				v := voyage{s, api.ShPassage{Opening: opening, Start: start, Anchor: none}}
				if start > after && first(h.alone(v)...) == api.OK {
					h.fitting[ship] = append(h.fitting[ship], v)
				}
			}
		}
	}
}

// passages yields, in their order, the passages that are allowed to a ship, held at each of the anchorages if it has to wait.
func (h *harbour) passages(ship int) iter.Seq[voyage] {
	return func(yield func(voyage) bool) {
		for _, v := range h.fitting[ship] {
			from, to := none, none
			if v.isHeld() {
				from, to = 0, len(h.Anchors)-1
			}
			for v.is.Anchor = from; v.is.Anchor <= to; v.is.Anchor++ {
				if !yield(v) {
					return
				}
			}
		}
	}
}

// next returns the passage that a ship gets after those that were placed, and whether there is one.
func (h *harbour) next(ship int) (voyage, bool) {
	for v := range h.passages(ship) {
		if first(h.meeting(v), h.holding(v)) == api.OK {
			return v, true
		}
	}
	for anchor := range h.Anchors {
		v := voyage{h.Ships[ship], api.ShPassage{Opening: none, Start: none, Anchor: anchor}}
		if first(h.turning(v)) == api.OK {
			return v, true
		}
	}
	return voyage{}, false
}

// fill places ships one after the other, with their passages in a plan, and reports whether it can.
func (h *harbour) fill(plan []api.ShPassage, ships []int) bool {
	for _, ship := range ships {
		v, found := h.next(ship)
		if !found {
			return false
		}
		plan[ship] = v.is
		h.place(v)
	}
	return true
}

// planBy returns the plan by an order, and whether there is one.
func (h *harbour) planBy(order []int) (plan []api.ShPassage, found bool) {
	h.placed = nil
	plan = make([]api.ShPassage, len(h.Ships))
	return plan, h.fill(plan, order)
}

// worth is what the ships that pass are worth, and for how many ticks they are held.
type worth struct{ value, held int }

// beats reports whether a plan that is worth so much is better than another one.
func (w worth) beats(o worth) bool {
	return w.value > o.value || w.value == o.value && w.held < o.held
}

// worth returns what a plan is worth.
func (h *harbour) worth(plan []api.ShPassage) (w worth) {
	for _, v := range h.voyages(plan) {
		if v.passes() {
			w.value += v.of.Value
			w.held += v.is.Start - v.of.Ready
		}
	}
	return w
}
