package tide

import (
	"barrage/api"
	"barrage/check"
)

// maxValue is the greatest value of a reading, and the least one below 0.
const maxValue = 30000

// CheckGauge returns the part, the index in it and the error of a gauge.
func CheckGauge(g api.TdGauge) (part, at int, e api.Errno) {
	return check.First(
		func() (int, api.Errno) { return 0, headError(g) },
		func() (int, api.Errno) { return checkDatums(g.Datums) },
		func() (int, api.Errno) { return checkReadings(g.Readings) },
	)
}

func headError(g api.TdGauge) api.Errno {
	if !Name(g.Name) {
		return api.ErrForm
	}
	if !check.In(g.Error, 0, api.MaxTdError) || !check.In(g.Rate, 0, api.MaxTdRate) {
		return api.ErrRange
	}
	return api.OK
}

func checkDatums(l []api.TdDatum) (at int, e api.Errno) {
	_, at, e = check.First(
		check.Must(check.In(len(l), 1, api.MaxTdDatums), 0, api.ErrLong),
		check.Each(len(l), func(i int) api.Errno {
			follows := i == 0 && l[0].From == 0 || i > 0 && check.IsTick(l[i].From) && l[i].From > l[i-1].From
			if !follows || !(span{l[i].Shift}).inside(-api.MaxTdError, api.MaxTdError) {
				return api.ErrRange
			}
			return api.OK
		}),
	)
	return at, e
}

func checkReadings(l []api.TdReading) (at int, e api.Errno) {
	_, at, e = check.First(
		check.Must(len(l) <= api.MaxTdReadings, 0, api.ErrLong),
		check.Each(len(l), func(i int) api.Errno {
			follows := i == 0 || l[i].Tick > l[i-1].Tick
			if !check.IsTick(l[i].Tick) || !follows || !check.In(l[i].Value, -maxValue, maxValue) {
				return api.ErrRange
			}
			return api.OK
		}),
	)
	return at, e
}

// Says returns what a gauge says of the level at a tick, by the readings up to another one.
func Says(g api.TdGauge, tick, now int) (api.Span, api.Errno) {
	if _, _, e := CheckGauge(g); e != api.OK {
		return api.Span{}, e
	}
	if !check.IsTick(tick) || !check.IsTick(now) {
		return api.Span{}, api.ErrRange
	}
	s, e := says(g, tick, now)
	return s.Span, e
}

// says is Says for a gauge without an error, and ticks.
func says(g api.TdGauge, tick, now int) (span, api.Errno) {
	known := false
	all := allLevels()
	for _, r := range g.Readings {
		if r.Tick > now {
			break
		}
		known = true
		shift := span{g.Datums[datumAt(g, r.Tick)].Shift}
		away := max(tick-r.Tick, r.Tick-tick)
		all = all.common(read(g, r).less(shift).wider(g.Rate * away))
	}
	if !known {
		return span{}, api.ErrNone
	}
	if all.empty() {
		return span{}, api.ErrDown
	}
	return all, api.OK
}

// read returns which numbers a reading can stand for, together with its shift.
func read(g api.TdGauge, r api.TdReading) span { return between(r.Value, r.Value).wider(g.Error) }

// datumAt returns the index of the datum of a reading at a tick.
func datumAt(g api.TdGauge, tick int) int {
	at := 0
	for i, d := range g.Datums {
		if d.From <= tick {
			at = i
		}
	}
	return at
}

// Fit returns which shifts a datum of a gauge can have, if the levels are known.
func Fit(g api.TdGauge, datum, from int, levels []api.Span) (api.Span, api.Errno) {
	if _, _, e := CheckGauge(g); e != api.OK {
		return api.Span{}, e
	}
	if _, _, e := check.First(
		check.Must(check.In(datum, 0, len(g.Datums)-1), 0, api.ErrNone),
		check.Must(len(levels) <= api.MaxTdTicks, 0, api.ErrLong),
		check.Must(areTicks(from, len(levels)), 0, api.ErrRange),
		check.Each(len(levels), func(i int) api.Errno {
			if !(span{levels[i]}).inside(api.MinLevel, api.MaxLevel) {
				return api.ErrArg
			}
			return api.OK
		}),
	); e != api.OK {
		return api.Span{}, e
	}
	shift := span{g.Datums[datum].Shift}
	for _, r := range g.Readings {
		told := len(levels) > 0 && check.In(r.Tick, from, from+len(levels)-1)
		if told && datumAt(g, r.Tick) == datum {
			shift = shift.common(read(g, r).less(span{levels[r.Tick-from]}))
		}
	}
	if shift.empty() {
		return api.Span{}, api.ErrDown
	}
	return shift.Span, api.OK
}
