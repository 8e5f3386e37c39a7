package tide

import (
	"barrage/api"
	"barrage/round"
)

// span is a span that may be empty: then its Lo is above its Hi.
type span struct{ api.Span }

// The kinds of ends of a span; of two ends at one place the lower one comes first, because this place is in both spans.
const (
	lower = 0
	upper = 1
)

// end is an end of a span.
type end struct{ at, kind int }

func between(lo, hi int) span { return span{api.Span{Lo: lo, Hi: hi}} }

// allLevels is the span of all levels.
func allLevels() span { return between(api.MinLevel, api.MaxLevel) }

func (s span) empty() bool { return s.Lo > s.Hi }

// inside reports whether a span has a number, and none outside of two limits.
func (s span) inside(lo, hi int) bool { return lo <= s.Lo && s.Lo <= s.Hi && s.Hi <= hi }

// common returns the part that two spans have in common.
func (s span) common(o span) span { return between(max(s.Lo, o.Lo), min(s.Hi, o.Hi)) }

// wider returns a span extended at both ends.
func (s span) wider(by int) span { return between(s.Lo-by, s.Hi+by) }

// plus returns the sums of any number in one span and any in the other one.
func (s span) plus(o span) span { return between(s.Lo+o.Lo, s.Hi+o.Hi) }

// less returns the differences of any number in one span and any in the other one.
func (s span) less(o span) span { return between(s.Lo-o.Hi, s.Hi-o.Lo) }

// ends returns the ends of a span by their kinds.
func (s span) ends() [2]end {
	return [2]end{lower: {at: s.Lo, kind: lower}, upper: {at: s.Hi, kind: upper}}
}

// quotient returns the span from a quotient, rounded down, to it, rounded up; the divisor is above 0.
func quotient(n, by int) span { return between(round.Down(n, by), round.Up(n, by)) }
