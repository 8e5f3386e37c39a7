package closure

import (
	"slices"

	"barrage/api"
)

// calls reports whether closing is called for by the rules.
func (t *task) calls(r api.ClRules) bool { return len(t.high) >= r.Count }

// allows reports whether the rules allow to begin to close at a tick.
func (t *task) allows(r api.ClRules, tick int) bool {
	return t.canBegin(tick) && t.calls(r) && tick >= t.rise-r.Early
}

// witness returns the first history for which a plan does not hold, with the first tick that shows it, and whether there is one.
func (t *task) witness(p api.ClPlan) (w api.ClWitness, found bool) {
	for i := range t.Histories {
		if tick, isAbove := t.above(i, p); isAbove {
			return api.ClWitness{History: i, At: tick}, true
		}
	}
	return w, false
}

// peaks returns the peaks of all histories.
func (t *task) peaks(p api.ClPlan) (l []api.ClPeak) {
	for i := range t.Histories {
		l = append(l, t.peak(i, p))
	}
	return l
}

// decide returns the decision of the task, and whether there is one.
func (t *task) decide(r api.ClRules) (d api.ClDecision, found bool) {
	if !t.calls(r) {
		return api.ClDecision{Plan: notClosed(), Peaks: t.peaks(notClosed())}, true
	}
	var later []api.ClWitness
	for tick := range t.begins() {
		if !t.allows(r, tick) {
			break
		}
		p := t.planFrom(tick)
		w, isRuledOut := t.witness(p)
		if !isRuledOut {
			slices.Reverse(later)
			return api.ClDecision{Plan: p, Peaks: t.peaks(p), Later: later}, true
		}
		later = append(later, w)
	}
	return d, false
}

// best returns the last of the plans that are allowed and hold for most histories, those for which it does not hold, and whether there is one; or the plan not to close, if this is not called for, and the histories that are high.
func (t *task) best(r api.ClRules) (p api.ClPlan, not []int, found bool) {
	if !t.calls(r) {
		return notClosed(), t.high, true
	}
	for tick := range t.begins() {
		if !t.allows(r, tick) {
			break
		}
		from := t.planFrom(tick)
		if fails := t.failing(from); !found || len(fails) < len(not) {
			p, not, found = from, fails, true
		}
	}
	return p, not, found
}
