package runoff

import (
	"slices"

	"barrage/api"
	"barrage/basin"
	"barrage/check"
	"barrage/named"
)

// Check returns the part, the index in it and the error of a task.
func Check(t api.RnTask) (part, at int, e api.Errno) {
	return check.First(
		func() (int, api.Errno) { return checkBasin(t) },
		func() (int, api.Errno) { return checkTicks(t) },
		func() (int, api.Errno) { return 0, levelsError(t) },
		func() (int, api.Errno) { return checkDevices(t) },
		check.Must(len(t.On) == len(devicesOf(t)), 0, api.ErrArg),
	)
}

// checkBasin looks at the basin (index 0), and then at its state (index 1).
func checkBasin(t api.RnTask) (at int, e api.Errno) {
	if _, _, e := basin.Check(t.Basin); e != api.OK {
		return 0, e
	}
	return 1, basin.CheckState(t.Basin, t.State)
}

func checkTicks(t api.RnTask) (at int, e api.Errno) {
	n := len(t.Outer)
	_, at, e = check.First(
		check.Must(n <= api.MaxRnTicks, 0, api.ErrLong),
		check.Must(len(t.River) == n && len(t.Prices) == n, 0, api.ErrArg),
		check.Each(n, func(i int) api.Errno {
			if !check.IsLevel(t.Outer[i]) || !check.In(t.River[i], 0, api.MaxFlow) || !check.In(t.Prices[i], 0, api.MaxRnPrice) {
				return api.ErrRange
			}
			return api.OK
		}),
	)
	return at, e
}

// levelsError returns the error of the levels Low and High of a task whose basin has none.
func levelsError(t api.RnTask) api.Errno {
	if !check.In(t.Low, t.Basin.Rows[0].Level, api.MaxLevel) || !check.In(t.High, t.Low, api.MaxLevel) {
		return api.ErrRange
	}
	return api.OK
}

func checkDevices(t api.RnTask) (at int, e api.Errno) {
	_, at, e = check.First(
		check.Must(len(t.Sluices) <= api.MaxRnSluices && len(t.Pumps) <= api.MaxRnPumps, 0, api.ErrLong),
		named.Each(devicesOf(t), device.title, func(d device) api.Errno {
			if !d.isStated() {
				return api.ErrRange
			}
			return api.OK
		}),
	)
	return at, e
}

// windowsError returns the error of spans of the level outside, and of a level inside.
func windowsError(l []api.Span, level int) api.Errno {
	switch {
	case len(l) > api.MaxTdTicks:
		return api.ErrLong
	case slices.ContainsFunc(l, func(s api.Span) bool { return s.Lo > s.Hi }):
		return api.ErrArg
	case !check.IsLevel(level):
		return api.ErrRange
	}
	return api.OK
}

// areEnergies reports whether numbers are from 0 to MaxRnEnergy.
func areEnergies(numbers ...int) bool {
	return !slices.ContainsFunc(numbers, func(n int) bool { return !check.In(n, 0, api.MaxRnEnergy) })
}
