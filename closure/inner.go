package closure

import (
	"slices"

	"barrage/api"
	"barrage/basin"
)

// closed is a time in a history in which the gates are shut: from the tick at which they shut, before the one from which on they are open.
type closed struct{ history, shut, open int }

// inner returns the levels inside in a history, with a plan, at all ticks.
func (t *task) inner(history int, p api.ClPlan) []level {
	var l []level
	for _, outer := range t.Histories[history].Values {
		l = append(l, whole(outer))
	}
	if p != notClosed() {
		shut := t.shut(p)
		copy(l[shut+1-t.from:], t.run(closed{history, shut, p.Open}))
	}
	return l
}

// run returns the levels behind the gates at the ticks after the one at which they shut, until they are open.
func (t *task) run(c closed) []level {
	if l, done := t.runs[c]; done {
		return l
	}
	l := slices.Repeat([]level{tooGreat()}, c.open-c.shut-1)
	s := t.shutState(c)
	for i := range l {
		after, _, e := basin.Step(t.Basin, s, t.tickOf(c.history, c.shut+i))
		if e != api.OK {
			break
		}
		s = after
		l[i] = levelOf(t.Basin, s.Volume)
	}
	t.runs[c] = l
	return l
}

// shutState returns the state of the basin at the tick at which the gates shut.
func (t *task) shutState(c closed) api.BsState {
	outer := t.Histories[c.history].Values[c.shut-t.from]
	volume, _ := basin.Volume(t.Basin, max(outer, t.Basin.Rows[0].Level))
	return api.BsState{Volume: volume, Filled: t.Filled}
}

// tickOf returns what there is for the basin in a tick of a history.
func (t *task) tickOf(history, tick int) api.BsTick {
	at := tick - t.from
	return api.BsTick{Outer: t.Histories[history].Values[at], River: t.River[at], Out: t.Out}
}

// above returns the first tick at which the level inside is above the limit in a history, with a plan, and whether there is one.
func (t *task) above(history int, p api.ClPlan) (tick int, found bool) {
	return first(t.from, t.inner(history, p), t.exceeds)
}

// exceeds reports whether a level inside is above the limit.
func (t *task) exceeds(l level) bool { return l.Hi > t.Limit }

// holds reports whether a plan holds for a history.
func (t *task) holds(history int, p api.ClPlan) bool {
	_, isAbove := t.above(history, p)
	return !isAbove
}

// failing returns the histories for which a plan does not hold.
func (t *task) failing(p api.ClPlan) (l []int) {
	for i := range t.Histories {
		if !t.holds(i, p) {
			l = append(l, i)
		}
	}
	return l
}

// peak returns the peak of a history, with a plan.
func (t *task) peak(history int, p api.ClPlan) api.ClPeak {
	l := t.inner(history, p)
	greatest := slices.MaxFunc(l, level.compare)
	tick, _ := first(t.from, l, func(x level) bool { return x == greatest })
	return api.ClPeak{At: tick, Level: greatest.Hi}
}
