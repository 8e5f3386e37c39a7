package closure

import (
	"strconv"

	"barrage/api"
	"barrage/check"
)

// proof is a decision that is checked, about a task, by rules.
type proof struct {
	*task
	rules    api.ClRules
	decision api.ClDecision
}

// refusal is the error with which a check of a decision ends, and where it was found.
type refusal struct {
	at int
	e  api.Errno
}

func (r refusal) Error() string {
	return "error " + strconv.Itoa(int(r.e)) + " at " + strconv.Itoa(r.at)
}

// must ends a check with an error if something does not hold.
func must(ok bool, at int, e api.Errno) {
	if !ok {
		panic(refusal{at, e})
	}
}

// check returns the error of the first check that ends with one.
func (p *proof) check() (at int, e api.Errno) {
	defer func() {
		switch r := recover().(type) {
		case nil:
		case refusal:
			at, e = r.at, r.e
		default:
			panic(r)
		}
	}()
	for _, look := range []func(){p.isPlanned, p.isAllowed, p.isHeld, p.hasPeaks, p.isWhole, p.isLast} {
		look()
	}
	return 0, api.OK
}

// closes reports whether the gates are closed.
func (p *proof) closes() bool { return p.decision.Plan != notClosed() }

// isPlanned checks that there is a plan of the task, and a peak for each history.
func (p *proof) isPlanned() {
	must(p.isPlan(p.decision.Plan) && len(p.decision.Peaks) == len(p.Histories), 0, api.ErrArg)
}

// isAllowed checks that the rules allow what is decided.
func (p *proof) isAllowed() {
	isRight := !p.calls(p.rules)
	if p.closes() {
		isRight = p.allows(p.rules, p.decision.Plan.Close)
	}
	must(isRight, 0, api.ClErrEarly)
}

// isHeld checks that the gates open as early as they can, and that the plan holds for each history.
func (p *proof) isHeld() {
	if p.closes() {
		plan := p.decision.Plan
		must(plan == p.planFrom(plan.Close) && len(p.failing(plan)) == 0, 0, api.ClErrHolds)
	}
}

// hasPeaks checks each peak.
func (p *proof) hasPeaks() {
	for i, peak := range p.decision.Peaks {
		must(peak == p.peak(i, p.decision.Plan), i, api.ClErrPeak)
	}
}

// later returns the number of ticks after that of the plan at which closing can begin.
func (p *proof) later() int {
	if p.closes() {
		return p.last - p.decision.Plan.Close
	}
	return 0
}

// isWhole checks that there is a witness for each later tick.
func (p *proof) isWhole() {
	must(len(p.decision.Later) == p.later(), 0, api.ErrArg)
}

// isLast checks that each witness rules out its tick.
func (p *proof) isLast() {
	for i, w := range p.decision.Later {
		must(p.rulesOut(w, p.decision.Plan.Close+1+i), i, api.ClErrLater)
	}
}

// rulesOut reports whether a witness rules out to begin to close at a tick.
func (p *proof) rulesOut(w api.ClWitness, tick int) bool {
	if !p.has(w.History) || !check.In(w.At, p.from, p.end-1) {
		return false
	}
	return p.exceeds(p.inner(w.History, p.planFrom(tick))[w.At-p.from])
}
