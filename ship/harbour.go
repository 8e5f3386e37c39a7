package ship

import (
	"barrage/api"
	"barrage/check"
)

// harbour is a port that has no error, with the ships that were placed.
type harbour struct {
	api.ShPort
	fitting [][]voyage // for each ship its passages with which alone nothing is wrong: see allow
	placed  []voyage
}

// read reads a port, or returns its error, or ErrArg if a plan has not a passage for each ship, or is not well formed.
func read(p api.ShPort, plans ...[]api.ShPassage) (*harbour, api.Errno) {
	if _, _, e := Check(p); e != api.OK {
		return nil, e
	}
	h := &harbour{ShPort: p}
	for _, plan := range plans {
		if !h.isFormed(plan) {
			return nil, api.ErrArg
		}
	}
	return h, api.OK
}

// readAt reads a port, a plan, an opening and a tick, or returns the error of one of them.
func readAt(p api.ShPort, plan []api.ShPassage, opening, tick int) (*harbour, api.Errno) {
	h, e := read(p, plan)
	switch {
	case e != api.OK:
		return nil, e
	case !h.hasOpening(opening):
		return nil, api.ErrNone
	case !check.IsTick(tick):
		return nil, api.ErrRange
	}
	return h, api.OK
}

func (h *harbour) hasShip(i int) bool { return check.In(i, 0, len(h.Ships)-1) }

func (h *harbour) hasOpening(i int) bool { return check.In(i, 0, len(h.Openings)-1) }

// voyages returns the passages of a plan with their ships, of which there are as many.
func (h *harbour) voyages(plan []api.ShPassage) (l []voyage) {
	for i, s := range h.Ships {
		l = append(l, voyage{s, plan[i]})
	}
	return l
}

// isFormed reports whether a plan has a passage for each ship, and is well formed.
func (h *harbour) isFormed(plan []api.ShPassage) bool {
	if len(plan) != len(h.Ships) {
		return false
	}
	for _, v := range h.voyages(plan) {
		isRight := v.is.Start == none
		if v.passes() {
			isRight = check.IsTick(v.is.Start) && v.isHeld() == (v.is.Anchor != none)
		}
		if !isRight || !check.In(v.is.Opening, none, len(h.Openings)-1) || !check.In(v.is.Anchor, none, len(h.Anchors)-1) {
			return false
		}
	}
	return true
}

// place adds a ship to those that were placed.
func (h *harbour) place(v voyage) { h.placed = append(h.placed, v) }
