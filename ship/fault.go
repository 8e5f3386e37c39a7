package ship

import (
	"slices"

	"barrage/api"
)

// fault is an error of a passage, if it applies.
type fault struct {
	e       api.Errno
	applies func() bool
}

// first returns the error of the first fault that applies.
func first(l ...fault) api.Errno {
	for _, f := range l {
		if f.applies() {
			return f.e
		}
	}
	return api.OK
}

// alone returns what can be wrong with a passage through an opening, alone.
func (h *harbour) alone(v voyage) []fault {
	o := h.Openings[v.is.Opening]
	return []fault{
		{api.ShErrEarly, func() bool { return v.is.Start < v.of.Ready }},
		{api.ShErrLate, func() bool { return v.of.Until != none && v.is.Start > v.of.Until }},
		{api.ShErrWide, func() bool { return v.of.Beam > o.Width }},
		{api.ShErrDeep, func() bool { return !h.areOver(v.inside(), o.Sill+v.of.Draught+h.Keel) }},
		{api.ShErrShut, func() bool { return isShut(o, v.inside().longer(h.Margin)) }},
	}
}

// areOver reports whether there is a level at each tick of a span, and none is below a number.
func (h *harbour) areOver(s span, least int) bool {
	from := h.Levels.From
	if s.From < from || s.Until > from+len(h.Levels.Values) {
		return false
	}
	return slices.Min(h.Levels.Values[s.From-from:s.Until-from]) >= least
}

// isShut reports whether an opening is shut at a tick of a span.
func isShut(o api.ShOpening, s span) bool {
	return slices.ContainsFunc(o.Shut, func(shut api.ShSpan) bool { return s.meets(span{shut}) })
}

// meeting returns what can be wrong with a passage through an opening by other passages.
func (h *harbour) meeting(v voyage) fault {
	return fault{api.ShErrMeet, func() bool {
		return slices.ContainsFunc(h.placed, func(o voyage) bool { return h.meet(v, o) })
	}}
}

// meet reports whether two passages meet, the first of which is through an opening.
func (h *harbour) meet(v, o voyage) bool {
	gap := h.Gap
	if v.of.Inside == o.of.Inside {
		gap = h.Follow
	}
	return o.isThrough(v.is.Opening) && v.inside().longer(gap).meets(o.inside().longer(gap))
}

// holding returns what can be wrong with a passage through an opening by where the ship is held.
func (h *harbour) holding(v voyage) fault {
	return fault{api.ShErrRoom, func() bool { return v.isHeld() && !h.hasRoom(v) }}
}

// hasRoom reports whether a ship that is held can be held at its anchorage.
func (h *harbour) hasRoom(v voyage) bool {
	a := h.Anchors[v.is.Anchor]
	// More ships are held only from a tick on at which one is ready, so that no other ticks have to be looked at.
	isTooMuch := func(o voyage) bool {
		return v.waits().has(o.of.Ready) && v.of.Length+h.length(v.is.Anchor, o.of.Ready) > a.Room
	}
	return v.isFrom(a) && !isTooMuch(v) && !slices.ContainsFunc(h.placed, isTooMuch)
}

// length returns how long all ships are together that were placed and are held at an anchorage at a tick.
func (h *harbour) length(anchor, tick int) (sum int) {
	for _, o := range h.placed {
		if o.is.Anchor == anchor && o.waits().has(tick) {
			sum += o.of.Length
		}
	}
	return sum
}

// turning returns what can be wrong with turning a ship back.
func (h *harbour) turning(v voyage) fault {
	return fault{api.ShErrTurn, func() bool {
		if v.is.Anchor == none {
			return true
		}
		a := h.Anchors[v.is.Anchor]
		return !v.isFrom(a) || v.of.Length > a.Turn
	}}
}

// wrong returns what is wrong with a passage, beside the ships that were placed.
func (h *harbour) wrong(v voyage) []api.Errno {
	var l []api.Errno
	if v.passes() {
		l = append(l, first(h.alone(v)...), first(h.meeting(v)), first(h.holding(v)))
	} else {
		l = append(l, first(h.turning(v)))
	}
	return slices.DeleteFunc(l, func(e api.Errno) bool { return e == api.OK })
}

// judge returns the faults of a plan, whose ships it places.
func (h *harbour) judge(plan []api.ShPassage) (l []api.ShFault) {
	for ship, v := range h.voyages(plan) {
		for _, e := range h.wrong(v) {
			l = append(l, api.ShFault{Error: e, Ship: ship})
		}
		h.place(v)
	}
	return l
}
