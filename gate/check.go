package gate

import (
	"slices"

	"barrage/api"
	"barrage/check"
	"barrage/tide"
)

// minOwn is the least number of own forces of a gate.
const minOwn = 2

// Check returns the part, the index in it and the error of a gate.
func Check(g api.GtGate) (part, at int, e api.Errno) {
	return check.First(
		func() (int, api.Errno) { return 0, headError(g) },
		func() (int, api.Errno) { return checkOwn(g) },
		func() (int, api.Errno) { return 0, numbersError(g) },
		func() (int, api.Errno) { return checkSensors(g) },
	)
}

func headError(g api.GtGate) api.Errno {
	switch {
	case !tide.Name(g.Name):
		return api.ErrForm
	case !check.In(g.Kind, api.GtSector, api.GtFlap):
		return api.ErrArg
	case !check.In(g.Travel, 1, api.MaxGtTravel):
		return api.ErrRange
	}
	return api.OK
}

func checkOwn(g api.GtGate) (at int, e api.Errno) {
	_, at, e = check.First(
		check.Must(check.In(len(g.Own), minOwn, api.MaxGtOwn), 0, api.ErrLong),
		check.Each(len(g.Own), func(i int) api.Errno {
			switch {
			case !check.In(g.Own[i], -api.MaxGtForce, api.MaxGtForce):
				return api.ErrRange
			case !suits(g.Kind, g.Own[i]):
				return api.ErrArg
			}
			return api.OK
		}),
	)
	return at, e
}

// suits reports whether a kind of gates can have an own force.
func suits(kind, force int) bool {
	switch kind {
	case api.GtLift:
		return force >= 0
	case api.GtFlap:
		return force <= 0
	}
	return force == 0
}

// numbersError returns the error of the numbers from Open to Slack; Travel has none.
func numbersError(g api.GtGate) api.Errno {
	_, _, e := check.First(
		check.Must(areLevels(g.Open, g.Shut), 0, api.ErrRange),
		check.Must(check.In(g.Height, 1, api.MaxGtHeight), 0, api.ErrRange),
		within(0, api.MaxGtRate, g.Float, g.Slide),
		within(-api.MaxGtRate, api.MaxGtRate, g.Push),
		within(0, api.MaxGtForce, g.Seal, g.Drive, g.Brake),
		within(1, api.MaxGtMoves, g.Speed, g.Gravity),
		within(0, api.MaxGtOil, g.Use, g.Pump, g.Capacity),
		// The two ends of the way do not meet: twice Slack is below Travel.
		within(0, (g.Travel-1)/2, g.Slack),
	)
	return e
}

// within looks whether numbers are from lo to hi.
func within(lo, hi int, numbers ...int) check.Look {
	return check.Each(len(numbers), func(i int) api.Errno {
		if !check.In(numbers[i], lo, hi) {
			return api.ErrRange
		}
		return api.OK
	})
}

func checkSensors(g api.GtGate) (at int, e api.Errno) {
	_, at, e = check.First(
		check.Must(len(g.Sensors) <= api.MaxGtSensors, 0, api.ErrLong),
		check.Each(len(g.Sensors), func(i int) api.Errno { return sensorError(g.Sensors[i]) }),
		check.Must(check.In(g.Wrong, 0, len(g.Sensors)), 0, api.ErrRange),
	)
	return at, e
}

func sensorError(s api.GtSensor) api.Errno {
	switch {
	case !check.In(s.Kind, api.GtEncoder, api.GtSwitch), s.Kind == api.GtEncoder && s.At != 0:
		return api.ErrArg
	case !check.In(s.At, 0, api.MaxGtTravel), !check.In(s.Tol, 0, api.MaxGtTravel):
		return api.ErrRange
	}
	return api.OK
}

// CheckSet returns the part, the index in it and the error of a set of gates.
func CheckSet(l api.GtSet) (part, at int, e api.Errno) {
	return check.First(
		func() (int, api.Errno) { return checkGates(l.Gates) },
		func() (int, api.Errno) { return checkRules(l) },
	)
}

func checkGates(l []api.GtGate) (at int, e api.Errno) {
	_, at, e = check.First(
		check.Must(check.In(len(l), 1, api.MaxGtGates), 0, api.ErrLong),
		check.Each(len(l), func(i int) api.Errno {
			if e := gateError(l[i]); e != api.OK {
				return e
			}
			if slices.ContainsFunc(l[:i], func(o api.GtGate) bool { return o.Name == l[i].Name }) {
				return api.ErrTwice
			}
			return api.OK
		}),
	)
	return at, e
}

func checkRules(l api.GtSet) (at int, e api.Errno) {
	_, at, e = check.First(
		check.Must(len(l.Rules) <= api.MaxGtRules, 0, api.ErrLong),
		check.Each(len(l.Rules), func(i int) api.Errno { return ruleError(l.Rules[i], len(l.Gates)) }),
	)
	return at, e
}

func ruleError(r api.GtRule, gates int) api.Errno {
	switch {
	case !check.In(r.Gate, 0, gates-1), !check.In(r.Other, 0, gates-1):
		return api.ErrNone
	case r.Gate == r.Other:
		return api.ErrArg
	case !check.In(r.Lo, 0, r.Hi), !check.In(r.Hi, 0, api.MaxGtTravel):
		return api.ErrRange
	}
	return api.OK
}

// gateError returns the error of Check alone.
func gateError(g api.GtGate) api.Errno {
	_, _, e := Check(g)
	return e
}

// stateError returns the error of a state of a gate that has none.
func stateError(g api.GtGate, s api.GtState) api.Errno {
	if !check.In(s.Pos, 0, g.Travel) || !check.In(s.Charge, 0, g.Capacity) {
		return api.ErrRange
	}
	return api.OK
}

// orderError returns the error of a step beside that of the state before it.
func orderError(t api.GtStep) api.Errno {
	switch {
	case !check.In(t.Order, api.GtHold, api.GtOpen):
		return api.ErrArg
	case !areLevels(t.Outer, t.Inner):
		return api.ErrRange
	}
	return api.OK
}

// stepError returns the error of a state of a gate that has none, and of a step from there.
func stepError(g api.GtGate, s api.GtState, t api.GtStep) api.Errno {
	if e := stateError(g, s); e != api.OK {
		return e
	}
	return orderError(t)
}

func areLevels(outer, inner int) bool { return check.IsLevel(outer) && check.IsLevel(inner) }
