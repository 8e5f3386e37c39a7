package closure

import (
	"slices"

	"barrage/api"
	"barrage/basin"
	"barrage/check"
)

// Check returns the part, the index in it and the error of a task.
func Check(t api.ClTask) (part, at int, e api.Errno) {
	return check.First(
		func() (int, api.Errno) { return 0, basinError(t.Basin) },
		func() (int, api.Errno) { return checkHistories(t.Histories) },
		func() (int, api.Errno) { return 0, riverError(t) },
		func() (int, api.Errno) { return 0, restError(t) },
	)
}

// basinError returns the error of basin.Check alone.
func basinError(b api.BsBasin) api.Errno {
	_, _, e := basin.Check(b)
	return e
}

func checkHistories(l []api.Series) (at int, e api.Errno) {
	_, at, e = check.First(
		check.Must(check.In(len(l), 1, api.MaxClHistories) && check.In(len(l[0].Values), 1, api.MaxClTicks), 0, api.ErrLong),
		check.Each(len(l), func(i int) api.Errno { return historyError(l[i], l[0]) }),
	)
	return at, e
}

// historyError returns the error of a history, which has the same ticks as the first one.
func historyError(h, first api.Series) api.Errno {
	switch n := len(first.Values); {
	case h.From != first.From, len(h.Values) != n:
		return api.ErrArg
	case !check.IsTick(h.From), !check.IsTick(h.From + n - 1), slices.ContainsFunc(h.Values, isNoLevel):
		return api.ErrRange
	}
	return api.OK
}

// riverError returns the error of the river of a task whose histories have none.
func riverError(t api.ClTask) api.Errno {
	switch {
	case len(t.River) != len(t.Histories[0].Values):
		return api.ErrArg
	case slices.ContainsFunc(t.River, isNoFlow):
		return api.ErrRange
	}
	return api.OK
}

// restError returns the error of the other numbers of a task whose basin has none.
func restError(t api.ClTask) api.Errno {
	row := t.Basin.Rows[0]
	if e := basin.CheckState(t.Basin, api.BsState{Volume: row.Volume, Filled: t.Filled}); e != api.OK {
		return e
	}
	if isNoFlow(t.Out) || !check.In(t.Limit, row.Level, api.MaxLevel) || !check.In(t.Delay, 0, api.MaxClDelay) {
		return api.ErrRange
	}
	return api.OK
}

// rulesError returns the error of rules.
func rulesError(r api.ClRules) api.Errno {
	if !check.In(r.Count, 1, api.MaxClHistories) || !check.In(r.Early, 0, api.MaxClTicks) {
		return api.ErrRange
	}
	return api.OK
}

func isNoLevel(x int) bool { return !check.IsLevel(x) }

func isNoFlow(n int) bool { return !check.In(n, 0, api.MaxFlow) }
