package basin

import (
	"slices"

	"barrage/api"
	"barrage/check"
	"barrage/named"
)

// minRows is the least number of rows of a basin.
const minRows = 2

// Check returns the part, the index in it and the error of a basin.
func Check(b api.BsBasin) (part, at int, e api.Errno) {
	return check.First(
		func() (int, api.Errno) { return checkRows(b.Rows) },
		check.Must(isRate(b.Leak) && check.IsLevel(b.Crest) && isRate(b.Over), 0, api.ErrRange),
		func() (int, api.Errno) { return checkPolders(b) },
		func() (int, api.Errno) { return 0, wideError(b) },
	)
}

func checkRows(l []api.BsRow) (at int, e api.Errno) {
	_, at, e = check.First(
		check.Must(check.In(len(l), minRows, api.MaxBsRows), 0, api.ErrLong),
		check.Each(len(l), func(i int) api.Errno {
			switch {
			case !check.IsLevel(l[i].Level), !isVolume(l[i].Volume):
				return api.ErrRange
			case i > 0 && (l[i].Level <= l[i-1].Level || l[i].Volume <= l[i-1].Volume):
				return api.ErrArg
			}
			return api.OK
		}),
	)
	return at, e
}

func checkPolders(b api.BsBasin) (at int, e api.Errno) {
	_, at, e = check.First(
		check.Must(len(b.Polders) <= api.MaxBsPolders, 0, api.ErrLong),
		named.Each(b.Polders, func(p api.BsPolder) string { return p.Name }, func(p api.BsPolder) api.Errno { return polderError(b, p) }),
	)
	return at, e
}

// polderError returns the error of a polder, beside its name, of a basin whose rows have none.
func polderError(b api.BsBasin, p api.BsPolder) api.Errno {
	if !reaches(b, p.Sill) || !isRate(p.Take) || !isVolume(p.Room) {
		return api.ErrRange
	}
	return api.OK
}

// wideError returns ErrArg if a basin whose numbers have no error is not wide enough.
func wideError(b api.BsBasin) api.Errno {
	most := b.Leak
	for _, p := range b.Polders {
		most = max(most, p.Take)
	}
	for i := 1; i < len(b.Rows); i++ {
		below, above := b.Rows[i-1], b.Rows[i]
		if most*(above.Level-below.Level) > above.Volume-below.Volume {
			return api.ErrArg
		}
	}
	return api.OK
}

// CheckState returns the error of a basin, or that of a state of it.
func CheckState(b api.BsBasin, s api.BsState) api.Errno {
	if e := basinError(b); e != api.OK {
		return e
	}
	_, _, e := check.First(
		check.Must(len(s.Filled) == len(b.Polders), 0, api.ErrArg),
		check.Must(holds(b, s.Volume), 0, api.ErrRange),
		check.Each(len(s.Filled), func(i int) api.Errno {
			if !check.In(s.Filled[i], 0, b.Polders[i].Room) {
				return api.ErrRange
			}
			return api.OK
		}),
	)
	return e
}

// basinError returns the error of Check alone.
func basinError(b api.BsBasin) api.Errno {
	_, _, e := Check(b)
	return e
}

// tickError returns the error of the numbers of a tick.
func tickError(t api.BsTick) api.Errno {
	if !check.IsLevel(t.Outer) || !check.In(t.River, 0, api.MaxFlow) || !check.In(t.Out, 0, api.MaxFlow) {
		return api.ErrRange
	}
	return api.OK
}

// flowsError returns the error of what flowed in some ticks, with so many polders.
func flowsError(l []api.BsFlows, polders int) api.Errno {
	_, _, e := check.First(
		check.Must(len(l) <= api.MaxBsTicks, 0, api.ErrLong),
		check.Each(len(l), func(i int) api.Errno {
			if len(l[i].Taken) != polders {
				return api.ErrArg
			}
			return api.OK
		}),
		check.Each(len(l), func(i int) api.Errno {
			f := l[i]
			if slices.ContainsFunc(append([]int{f.River, f.Over, f.Leak, f.Out}, f.Taken...), isNoFlow) {
				return api.ErrRange
			}
			return api.OK
		}),
	)
	return e
}

// isNoFlow reports whether a number is more than can flow, one way or the other.
func isNoFlow(n int) bool { return !check.In(n, -api.MaxVolume, api.MaxVolume) }

func isRate(n int) bool { return check.In(n, 0, api.MaxBsRate) }

func isVolume(n int) bool { return check.In(n, 0, api.MaxVolume) }

// holds reports whether a volume is one of a basin whose rows have no error.
func holds(b api.BsBasin, volume int) bool {
	return check.In(volume, b.Rows[0].Volume, api.MaxVolume)
}

// reaches reports whether a level, which is a limit or a sill, is one of a basin whose rows have no error.
func reaches(b api.BsBasin, level int) bool {
	return check.In(level, b.Rows[0].Level, api.MaxLevel)
}
