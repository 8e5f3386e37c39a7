package ship

import "barrage/api"

// pair is something, and what it is of.
type pair[A, B any] struct {
	of A
	is B
}

// voyage is the passage of a ship.
type voyage pair[api.ShShip, api.ShPassage]

// span is the ticks from From on and before Until; without a tick between there are none.
type span struct{ api.ShSpan }

func between(from, until int) span { return span{api.ShSpan{From: from, Until: until}} }

func (s span) has(tick int) bool { return s.From <= tick && tick < s.Until }

// meets reports whether two spans have a tick in common.
func (s span) meets(o span) bool { return max(s.From, o.From) < min(s.Until, o.Until) }

// longer returns a span that ends later.
func (s span) longer(by int) span { return between(s.From, s.Until+by) }

// passes reports whether the ship is not turned back.
func (v voyage) passes() bool { return v.is.Opening != none }

// isThrough reports whether the ship passes an opening.
func (v voyage) isThrough(opening int) bool { return v.is.Opening == opening }

// inside returns the ticks at which a ship that passes is in the opening.
func (v voyage) inside() span { return between(v.is.Start, v.is.Start+v.of.Pass) }

// waits returns the ticks at which the ship is held: there are none if it is turned back, because its Start is before all ticks.
func (v voyage) waits() span { return between(v.of.Ready, v.is.Start) }

// isHeld reports whether a ship that passes is held.
func (v voyage) isHeld() bool { return v.is.Start > v.of.Ready }

// isFrom reports whether a ship comes from the side of an anchorage.
func (v voyage) isFrom(a api.ShAnchor) bool { return v.of.Inside == a.Inside }
