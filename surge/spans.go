package surge

import (
	"slices"

	"barrage/api"
	"barrage/check"
)

// spans are spans of levels, one for each tick of a task; those whose Lo is above their Hi have no levels.
type spans []api.Span

// empty reports whether one of the spans has no levels.
func (s spans) empty() bool {
	return slices.ContainsFunc(s, func(x api.Span) bool { return x.Lo > x.Hi })
}

// common returns the part that two spans have in common.
func common(a, b api.Span) api.Span {
	return api.Span{Lo: max(a.Lo, b.Lo), Hi: min(a.Hi, b.Hi)}
}

// narrow leaves of each span the part that it has in common with the other one.
func (s spans) narrow(o spans) {
	for i, x := range o {
		s[i] = common(s[i], x)
	}
}

// widen extends each span until the other one is in it.
func (s spans) widen(o spans) {
	for i, x := range o {
		s[i] = api.Span{Lo: min(s[i].Lo, x.Lo), Hi: max(s[i].Hi, x.Hi)}
	}
}

// tighten leaves of each span what a level can be that changes by at most a rate from tick to tick. A span that has no levels has none afterwards, so that empty tells of both.
func (s spans) tighten(rate int) {
	for i := 1; i < len(s); i++ {
		s.follow(i, i-1, rate)
	}
	for i := len(s) - 2; i >= 0; i-- {
		s.follow(i, i+1, rate)
	}
}

// follow narrows the span at a tick by that of a neighbour.
func (s spans) follow(at, neighbour, rate int) {
	n := s[neighbour]
	s[at] = common(s[at], api.Span{Lo: n.Lo - rate, Hi: n.Hi + rate})
}

// hold reports whether each value is in its span.
func (s spans) hold(values []int) bool {
	for i, v := range values {
		if !check.In(v, s[i].Lo, s[i].Hi) {
			return false
		}
	}
	return true
}

func (s spans) lows() []int {
	var l []int
	for _, x := range s {
		l = append(l, x.Lo)
	}
	return l
}

func (s spans) highs() []int {
	var l []int
	for _, x := range s {
		l = append(l, x.Hi)
	}
	return l
}
