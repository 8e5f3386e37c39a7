package gate

import (
	"slices"

	"barrage/api"
	"barrage/check"
	"barrage/round"
)

// interlock returns why a gate of a set may not be ordered to move (OK: it may), beside its bolts.
func interlock(l api.GtSet, gate int, states []api.GtState, ship bool) api.Errno {
	if ship {
		return api.GtErrShip
	}
	for _, r := range l.Rules {
		if r.Gate == gate && !check.In(states[r.Other].Pos, r.Lo, r.Hi) {
			return api.GtErrRule
		}
	}
	return api.OK
}

// move is Move without errors.
func move(l api.GtSet, states []api.GtState, steps []api.GtStep, ships []bool) ([]api.GtState, []api.GtMoved) {
	next := make([]api.GtState, len(l.Gates))
	moved := make([]api.GtMoved, len(l.Gates))
	for i, g := range l.Gates {
		next[i], moved[i] = machine{g, states[i], steps[i]}.step(interlock(l, i, states, ships[i]))
	}
	return next, moved
}

// areShut reports whether all gates are at the ends of their ways.
func areShut(l []api.GtGate, states []api.GtState) bool {
	for i, g := range l {
		if states[i].Pos != g.Travel {
			return false
		}
	}
	return true
}

// toClose returns the step with the order to close.
func toClose(outer, inner int, power bool) api.GtStep {
	return api.GtStep{Order: api.GtClose, Power: power, Outer: outer, Inner: inner}
}

// stepsToShut returns after how many steps all gates of a set are shut, if they do the same ones again and again; ErrDown if these are too many.
func stepsToShut(l api.GtSet, states []api.GtState, steps []api.GtStep, ships []bool) (int, api.Errno) {
	n := 0
search:
	for {
		switch {
		case areShut(l.Gates, states):
			break search
		case n == api.MaxGtSteps:
			return 0, api.ErrDown
		}
		states, _ = move(l, states, steps, ships)
		n++
	}
	return n, api.OK
}

// stepsError returns the error of Move, beside that of the set.
func stepsError(l api.GtSet, states []api.GtState, steps []api.GtStep, ships []bool) api.Errno {
	n := len(l.Gates)
	_, _, e := check.First(
		check.Must(len(states) == n && len(steps) == n && len(ships) == n, 0, api.ErrArg),
		check.Each(n, func(i int) api.Errno { return stepError(l.Gates[i], states[i], steps[i]) }),
	)
	return e
}

// Move does a step of all gates.
func Move(l api.GtSet, states []api.GtState, steps []api.GtStep, ships []bool) ([]api.GtState, []api.GtMoved, api.Errno) {
	if _, _, e := CheckSet(l); e != api.OK {
		return nil, nil, e
	}
	if e := stepsError(l, states, steps, ships); e != api.OK {
		return nil, nil, e
	}
	next, moved := move(l, states, steps, ships)
	return next, moved, api.OK
}

// Delay returns in how many ticks all gates are shut.
func Delay(l api.GtSet, states []api.GtState, outer, inner int, power bool) (int, api.Errno) {
	if _, _, e := CheckSet(l); e != api.OK {
		return 0, e
	}
	steps := slices.Repeat([]api.GtStep{toClose(outer, inner, power)}, len(l.Gates))
	ships := make([]bool, len(l.Gates))
	if e := stepsError(l, states, steps, ships); e != api.OK {
		return 0, e
	}
	n, e := stepsToShut(l, states, steps, ships)
	return round.Up(n, api.GtStepsOfTick), e
}
