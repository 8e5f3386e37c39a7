package surge

import (
	"slices"

	"barrage/api"
	"barrage/check"
	"barrage/named"
	"barrage/tide"
)

// Check returns the part, the index in it and the error of a task.
func Check(t api.SgTask) (part, at int, e api.Errno) {
	parts := []func(api.SgTask) (int, api.Errno){checkTide, checkGauges, checkNumbers, checkCentres, checkForecasts}
	for i, look := range parts {
		if at, e := look(t); e != api.OK {
			return i + 1, at, e
		}
	}
	return 0, 0, api.OK
}

func checkTide(t api.SgTask) (at int, e api.Errno) {
	if !check.In(t.Ticks, 1, api.MaxSgTicks) {
		return 0, api.ErrRange
	}
	_, e = tide.Levels(t.Table, t.From, t.Ticks)
	return 0, e
}

func checkGauges(t api.SgTask) (at int, e api.Errno) {
	if len(t.Gauges) > api.MaxTdGauges {
		return 0, api.ErrLong
	}
	for i, g := range t.Gauges {
		if _, _, e := tide.CheckGauge(g); e != api.OK {
			return i, e
		}
		if slices.ContainsFunc(t.Gauges[:i], func(o api.TdGauge) bool { return o.Name == g.Name }) {
			return i, api.ErrTwice
		}
	}
	if !check.In(t.Wrong, 0, max(len(t.Gauges)-1, 0)) {
		return 0, api.ErrRange
	}
	return 0, api.OK
}

func checkNumbers(t api.SgTask) (at int, e api.Errno) {
	if len(t.Centres) > api.MaxSgCentres || len(t.Forecasts) > api.MaxSgForecasts {
		return 0, api.ErrLong
	}
	if !check.In(t.Least, -api.MaxSgSurge, 0) || !check.In(t.Most, 0, api.MaxSgSurge) || !check.In(t.Rate, 1, api.MaxTdRate) || !check.In(t.Quorum, 0, len(t.Centres)) {
		return 0, api.ErrRange
	}
	return 0, api.OK
}

func checkCentres(t api.SgTask) (at int, e api.Errno) {
	return named.Each(t.Centres, func(c api.SgCentre) string { return c.Name }, centreError)()
}

// centreError returns the error of a centre, beside its name.
func centreError(c api.SgCentre) api.Errno {
	if !check.In(c.Late, 0, api.MaxSgLate) || !check.In(c.Base, 0, api.MaxSgError) || !check.In(c.Growth, 0, api.MaxSgGrowth) {
		return api.ErrRange
	}
	return api.OK
}

func checkForecasts(t api.SgTask) (at int, e api.Errno) {
	for i, f := range t.Forecasts {
		if !check.In(f.Centre, 0, len(t.Centres)-1) {
			return i, api.ErrNone
		}
		if !check.IsTick(f.Issued) || !check.IsTick(f.From) {
			return i, api.ErrRange
		}
		if e := membersError(f.Members); e != api.OK {
			return i, e
		}
		if slices.ContainsFunc(t.Forecasts[:i], func(o api.SgForecast) bool { return o.Centre == f.Centre && o.Issued == f.Issued }) {
			return i, api.ErrTwice
		}
	}
	return 0, api.OK
}

func membersError(l [][]int) api.Errno {
	isLong := func(m []int) bool { return !check.In(len(m), 1, api.MaxSgValues) }
	isUneven := func(m []int) bool { return len(m) != len(l[0]) }
	isWild := func(m []int) bool {
		return slices.ContainsFunc(m, func(v int) bool { return !check.In(v, -api.MaxSgSurge, api.MaxSgSurge) })
	}
	switch {
	case !check.In(len(l), 1, api.MaxSgMembers) || slices.ContainsFunc(l, isLong):
		return api.ErrLong
	case slices.ContainsFunc(l, isUneven):
		return api.ErrArg
	case slices.ContainsFunc(l, isWild):
		return api.ErrRange
	}
	return api.OK
}

// checkAt returns the error of Check for a task, and then that of a tick.
func checkAt(t api.SgTask, tick int) api.Errno {
	if _, _, e := Check(t); e != api.OK {
		return e
	}
	if !check.IsTick(tick) {
		return api.ErrRange
	}
	return api.OK
}
