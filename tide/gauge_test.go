package tide_test

import (
	"math"
	"slices"
	"testing"

	"barrage/api"
	"barrage/probe"
	"barrage/tide"
)

// P1.4
func TestCheckGaugeNumbers(t *testing.T) {
	g := pier()
	look := func() (part, at int, e api.Errno) {
		_, _, e = tide.CheckGauge(g)
		return 0, 0, e
	}
	probe.Ends(t, 0, 0, look,
		probe.Field("Error", &g.Error, 0, api.MaxTdError, api.ErrRange),
		probe.Field("Rate", &g.Rate, 0, api.MaxTdRate, api.ErrRange),
		probe.Field("From of the first datum", &g.Datums[0].From, 0, 0, api.ErrRange),
		probe.Field("From of the second datum", &g.Datums[1].From, 1, api.MaxTick, api.ErrRange),
		probe.Field("Lo of Shift", &g.Datums[1].Shift.Lo, -api.MaxTdError, 40, api.ErrRange),
		probe.Field("Hi of Shift", &g.Datums[1].Shift.Hi, 30, api.MaxTdError, api.ErrRange),
		probe.Field("Tick of the first reading", &g.Readings[0].Tick, 0, 109, api.ErrRange),
		probe.Field("Tick of the second reading", &g.Readings[1].Tick, 91, api.MaxTick, api.ErrRange),
		probe.Field("Value", &g.Readings[1].Value, -30000, 30000, api.ErrRange),
	)
}

func TestCheckGauge(t *testing.T) {
	datums := func(n int) (l []api.TdDatum) {
		for i := range n {
			l = append(l, api.TdDatum{From: i})
		}
		return l
	}
	readings := func(n int) (l []api.TdReading) {
		for i := range n {
			l = append(l, api.TdReading{Tick: i})
		}
		return l
	}
	for i, c := range []struct {
		change   func(g *api.TdGauge)
		part, at int
		e        api.Errno
	}{
		{func(g *api.TdGauge) {}, 0, 0, api.OK},
		{func(g *api.TdGauge) { g.Datums, g.Readings = datums(api.MaxTdDatums), readings(api.MaxTdReadings) }, 0, 0, api.OK},
		{func(g *api.TdGauge) { g.Readings = nil }, 0, 0, api.OK},
		{func(g *api.TdGauge) { g.Readings = []api.TdReading{} }, 0, 0, api.OK},
		{func(g *api.TdGauge) { g.Name = "" }, 1, 0, api.ErrForm},
		{func(g *api.TdGauge) { g.Error = -1 }, 1, 0, api.ErrRange},
		{func(g *api.TdGauge) { g.Rate = api.MaxTdRate + 1 }, 1, 0, api.ErrRange},
		{func(g *api.TdGauge) { g.Datums = nil }, 2, 0, api.ErrLong},
		{func(g *api.TdGauge) { g.Datums = datums(api.MaxTdDatums + 1) }, 2, 0, api.ErrLong},
		{func(g *api.TdGauge) { g.Datums[0].From = 1 }, 2, 0, api.ErrRange},
		{func(g *api.TdGauge) { g.Datums[0].Shift = sp(1, 0) }, 2, 0, api.ErrRange},
		{func(g *api.TdGauge) { g.Datums[1].From = 0 }, 2, 1, api.ErrRange},
		{func(g *api.TdGauge) { g.Datums = datums(4); g.Datums[2].From = 1 }, 2, 2, api.ErrRange},
		{func(g *api.TdGauge) { g.Readings = readings(api.MaxTdReadings + 1) }, 3, 0, api.ErrLong},
		{func(g *api.TdGauge) { g.Readings[0].Value = 30001 }, 3, 0, api.ErrRange},
		{func(g *api.TdGauge) { g.Readings[1].Tick = 90 }, 3, 1, api.ErrRange},
		{func(g *api.TdGauge) { g.Readings = readings(5); g.Readings[4].Tick = 3 }, 3, 4, api.ErrRange},
		// All of one part comes before the next one; in a part the error that is named first, and then the first element.
		{func(g *api.TdGauge) { g.Name, g.Error = "Pier", -1 }, 1, 0, api.ErrForm},
		{func(g *api.TdGauge) { g.Rate, g.Datums = -1, nil }, 1, 0, api.ErrRange},
		{func(g *api.TdGauge) { g.Datums[1].From, g.Readings = 0, readings(api.MaxTdReadings+1) }, 2, 1, api.ErrRange},
		{func(g *api.TdGauge) { g.Datums = make([]api.TdDatum, api.MaxTdDatums+1) }, 2, 0, api.ErrLong},
		{func(g *api.TdGauge) { g.Datums[0].Shift, g.Datums[1].From = sp(0, 5001), 0 }, 2, 0, api.ErrRange},
		{func(g *api.TdGauge) { g.Readings = make([]api.TdReading, api.MaxTdReadings+1) }, 3, 0, api.ErrLong},
		{func(g *api.TdGauge) { g.Readings[0].Tick, g.Readings[1].Value = -1, 30001 }, 3, 0, api.ErrRange},
	} {
		g := pier()
		c.change(&g)
		if part, at, e := tide.CheckGauge(g); part != c.part || at != c.at || e != c.e {
			t.Errorf("%d: CheckGauge = %d, %d, %d", i, part, at, e)
		}
		if c.e != api.OK {
			testGaugeFirst(t, g, c.e)
		}
	}
}

// testGaugeFirst checks that the error of a gauge comes before all others, with zero values.
func testGaugeFirst(t *testing.T, g api.TdGauge, e api.Errno) {
	t.Helper()
	says, e1 := tide.Says(g, -1, -1)
	sound, e2 := tide.Sound([]api.TdGauge{g, g}, -1, -1, -1)
	many, others, e3 := tide.Agree([]api.TdGauge{g, g}, -1, -1)
	residual, e4 := tide.Residual(moon(), []api.TdGauge{g, g}, -1, -1, -1)
	fit, e5 := tide.Fit(g, -1, -1, make([]api.Span, api.MaxTdTicks+1))
	if e1 != e || e2 != e || e3 != e || e4 != e || e5 != e {
		t.Errorf("%v: errors %d, %d, %d, %d, %d, want %d", g, e1, e2, e3, e4, e5, e)
	}
	if says != sp(0, 0) || sound != sp(0, 0) || many != 0 || others != nil || residual != sp(0, 0) || fit != sp(0, 0) {
		t.Errorf("%v: a result is not zero", g)
	}
}

func TestSays(t *testing.T) {
	for _, c := range []struct {
		tick, now int
		want      api.Span
		e         api.Errno
	}{
		{90, 100, sp(480, 520), api.OK}, {92, 100, sp(380, 620), api.OK}, {88, 100, sp(380, 620), api.OK}, {90, 110, sp(480, 520), api.OK}, {110, 110, sp(580, 630), api.OK}, {109, 109, sp(-470, 1470), api.OK},
		{90, 90, sp(480, 520), api.OK}, {110, 109, sp(-520, 1520), api.OK}, {102, 110, sp(180, 1030), api.OK}, {0, 110, sp(-4020, 5020), api.OK}, {api.MaxTick, api.MaxTick, sp(api.MinLevel, api.MaxLevel), api.OK},
		{89, 89, sp(0, 0), api.ErrNone}, {90, 89, sp(0, 0), api.ErrNone}, {90, 0, sp(0, 0), api.ErrNone},
		{-1, 100, sp(0, 0), api.ErrRange}, {90, -1, sp(0, 0), api.ErrRange}, {api.MaxTick + 1, 100, sp(0, 0), api.ErrRange}, {90, api.MaxTick + 1, sp(0, 0), api.ErrRange}, {math.MinInt, math.MaxInt, sp(0, 0), api.ErrRange},
	} {
		if x, e := tide.Says(pier(), c.tick, c.now); x != c.want || e != c.e {
			t.Errorf("Says(%d, %d) = %v, %d, want %v, %d", c.tick, c.now, x, e, c.want, c.e)
		}
	}
	if _, e := tide.Says(mute("mute"), 90, 90); e != api.ErrNone {
		t.Errorf("Says: %d", e)
	}
	// An unknown reading contradicts nothing, a known one does at all ticks.
	for _, tick := range []int{0, 109, 110, 200} {
		if x, e := tide.Says(torn("torn"), tick, 110); x != sp(0, 0) || e != api.ErrDown {
			t.Errorf("Says = %v, %d", x, e)
		}
		if x, e := tide.Says(torn("torn"), tick, 109); x != sp(0, 0) || e != api.OK {
			t.Errorf("Says = %v, %d", x, e)
		}
	}
}

// The datum of a reading is the last one that is not after it, and what a gauge says is a level.
func TestSaysDatumsAndLevels(t *testing.T) {
	g := api.TdGauge{Name: "g", Datums: []api.TdDatum{{Shift: sp(1, 1)}, {From: 100, Shift: sp(-20, -10)}, {From: 101, Shift: sp(5, 7)}}, Readings: []api.TdReading{{Tick: 99}, {Tick: 100}, {Tick: 101}, {Tick: 500}}}
	for at, want := range []api.Span{sp(-1, -1), sp(10, 20), sp(-7, -5), sp(-7, -5)} {
		one := g
		one.Readings = g.Readings[at : at+1]
		tick := one.Readings[0].Tick
		if x, e := tide.Says(one, tick, tick); x != want || e != api.OK {
			t.Errorf("Says at %d = %v, %d, want %v", tick, x, e, want)
		}
	}
	for _, c := range []struct {
		value int
		want  api.Span
		e     api.Errno
	}{{19990, sp(19970, 20000), api.OK}, {20020, sp(20000, 20000), api.OK}, {20021, sp(0, 0), api.ErrDown}, {-20020, sp(-20000, -20000), api.OK}, {-20021, sp(0, 0), api.ErrDown}, {30000, sp(0, 0), api.ErrDown}} {
		g := api.TdGauge{Name: "g", Error: 20, Datums: []api.TdDatum{{}}, Readings: []api.TdReading{{Tick: 3, Value: c.value}}}
		if x, e := tide.Says(g, 3, 3); x != c.want || e != c.e {
			t.Errorf("Says of %d = %v, %d", c.value, x, e)
		}
	}
}

// P1.11
func TestSaysHoldsTruth(t *testing.T) {
	r := random()
	for range 500 {
		rate := from(r, 0, 30)
		truth := someTruth(r, from(r, 1, 40), rate)
		g, _ := someGauge(r, "g", truth, rate)
		for tick, level := range truth {
			before := sp(math.MinInt, math.MaxInt)
			for now := range len(truth) {
				x, e := tide.Says(g, tick, now)
				if e != api.OK || level < x.Lo || level > x.Hi {
					t.Fatalf("%v: Says(%d, %d) = %v, %d, the level is %d", g, tick, now, x, e, level)
				}
				if x.Lo < before.Lo || x.Hi > before.Hi {
					t.Fatalf("%v: Says(%d, %d) = %v, and %v before", g, tick, now, x, before)
				}
				before = x
			}
		}
	}
}

// saysLevel reports whether one reading says that a level is possible at a tick: with it Says can be looked at level by level.
func saysLevel(g api.TdGauge, r api.TdReading, tick, level int) bool {
	shift := g.Datums[0].Shift
	for _, d := range g.Datums {
		if d.From <= r.Tick {
			shift = d.Shift
		}
	}
	away := g.Rate * max(tick-r.Tick, r.Tick-tick)
	return level >= r.Value-g.Error-shift.Hi-away && level <= r.Value+g.Error-shift.Lo+away
}

func TestSaysIsNoWider(t *testing.T) {
	r := random()
	for range 300 {
		g, _ := someGauge(r, "g", someTruth(r, 12, 60), from(r, 5, 40))
		tick, now := from(r, 0, 15), from(r, 0, 15)
		least, most := math.MaxInt, math.MinInt
		for level := -3000; level <= 3000; level++ {
			ok := !slices.ContainsFunc(g.Readings, func(r api.TdReading) bool { return r.Tick <= now && !saysLevel(g, r, tick, level) })
			if ok {
				least, most = min(least, level), max(most, level)
			}
		}
		x, e := tide.Says(g, tick, now)
		if least > most && e != api.ErrDown || least <= most && (x != sp(least, most) || e != api.OK) {
			t.Fatalf("%v: Says(%d, %d) = %v, %d, want %d to %d", g, tick, now, x, e, least, most)
		}
	}
}

// P1.7
func TestFit(t *testing.T) {
	far := make([]api.Span, api.MaxTdTicks)
	far[9] = sp(623, 625)
	bad := make([]api.Span, api.MaxTdTicks+1)
	bad[0] = sp(1, 0)
	for i, c := range []struct {
		datum, from int
		levels      []api.Span
		want        api.Span
		e           api.Errno
	}{
		{1, 110, []api.Span{sp(590, 595)}, sp(30, 40), api.OK},
		{1, 110, []api.Span{sp(585, 586)}, sp(34, 40), api.OK},
		{1, 109, []api.Span{sp(0, 0), sp(590, 625)}, sp(30, 40), api.OK},
		{1, 110, []api.Span{sp(623, 625)}, sp(30, 37), api.OK},
		{1, 101, far, sp(30, 37), api.OK},
		{1, 110, []api.Span{sp(580, 580)}, sp(40, 40), api.OK},
		{1, 110, []api.Span{sp(579, 579)}, sp(0, 0), api.ErrDown},
		{1, 110, []api.Span{sp(630, 630)}, sp(30, 30), api.OK},
		{1, 110, []api.Span{sp(631, 631)}, sp(0, 0), api.ErrDown},
		// No reading of the datum at whose tick the level is told.
		{1, 111, []api.Span{sp(0, 0)}, sp(30, 40), api.OK},
		{1, 109, []api.Span{sp(0, 0)}, sp(30, 40), api.OK},
		{1, 90, []api.Span{sp(0, 0)}, sp(30, 40), api.OK},
		{0, 110, []api.Span{sp(0, 0)}, sp(0, 0), api.OK},
		{0, 90, []api.Span{sp(521, 530)}, sp(0, 0), api.ErrDown},
		{1, -7, nil, sp(30, 40), api.OK},
		{1, math.MinInt, []api.Span{}, sp(30, 40), api.OK},
		{1, math.MaxInt, nil, sp(30, 40), api.OK},
		{2, 110, nil, sp(0, 0), api.ErrNone},
		{-1, 110, nil, sp(0, 0), api.ErrNone},
		{math.MaxInt, 110, bad, sp(0, 0), api.ErrNone},
		{1, 110, bad, sp(0, 0), api.ErrLong},
		{1, -1, bad, sp(0, 0), api.ErrLong},
		{1, -1, []api.Span{sp(0, 0)}, sp(0, 0), api.ErrRange},
		{1, -1, []api.Span{sp(1, 0)}, sp(0, 0), api.ErrRange},
		{1, api.MaxTick, []api.Span{sp(0, 0)}, sp(30, 40), api.OK},
		{1, api.MaxTick, []api.Span{sp(0, 0), sp(0, 0)}, sp(0, 0), api.ErrRange},
		{1, math.MaxInt, []api.Span{sp(0, 0)}, sp(0, 0), api.ErrRange},
		{1, 300, []api.Span{sp(0, 0), sp(1, 0)}, sp(0, 0), api.ErrArg},
		{1, 300, []api.Span{sp(api.MinLevel, api.MaxLevel)}, sp(30, 40), api.OK},
		{1, 300, []api.Span{sp(0, api.MaxLevel+1)}, sp(0, 0), api.ErrArg},
		{1, 300, []api.Span{sp(api.MinLevel-1, 0)}, sp(0, 0), api.ErrArg},
		{1, 300, []api.Span{sp(math.MaxInt, math.MinInt)}, sp(0, 0), api.ErrArg},
	} {
		if x, e := tide.Fit(pier(), c.datum, c.from, c.levels); x != c.want || e != c.e {
			t.Errorf("%d: Fit = %v, %d, want %v, %d", i, x, e, c.want, c.e)
		}
	}
}

// Each reading of a datum narrows its shift, with both ends of the levels.
func TestFitOfSeveral(t *testing.T) {
	g := api.TdGauge{Name: "g", Error: 3, Datums: []api.TdDatum{{Shift: sp(-100, 100)}, {From: 5, Shift: sp(-9, 9)}}, Readings: []api.TdReading{{Tick: 2, Value: 50}, {Tick: 4, Value: 60}, {Tick: 5, Value: 900}}}
	levels := []api.Span{sp(30, 40), sp(0, 0), sp(35, 36), sp(900, 900)}
	// 50 - 3 - 40 to 50 + 3 - 30, and 60 - 3 - 36 to 60 + 3 - 35.
	if x, e := tide.Fit(g, 0, 2, levels); x != sp(21, 23) || e != api.OK {
		t.Errorf("Fit = %v, %d", x, e)
	}
	if x, e := tide.Fit(g, 1, 2, levels); x != sp(-3, 3) || e != api.OK {
		t.Errorf("Fit = %v, %d", x, e)
	}
	levels[0] = sp(60, 60)
	if x, e := tide.Fit(g, 0, 2, levels); x != sp(0, 0) || e != api.ErrDown {
		t.Errorf("Fit = %v, %d", x, e)
	}
}

// P1.14
func TestFitHoldsShift(t *testing.T) {
	r := random()
	for range 500 {
		truth := someTruth(r, from(r, 1, 40), 30)
		g, shifts := someGauge(r, "g", truth, 30)
		start := r.IntN(len(truth))
		var wide, narrow []api.Span
		for _, level := range truth[start:] {
			n := sp(level-from(r, 0, 20), level+from(r, 0, 20))
			narrow = append(narrow, n)
			wide = append(wide, sp(n.Lo-from(r, 0, 20), n.Hi+from(r, 0, 20)))
		}
		fewer := g
		fewer.Readings = slices.DeleteFunc(slices.Clone(g.Readings), func(api.TdReading) bool { return r.IntN(3) == 0 })
		for datum, shift := range shifts {
			x, e := tide.Fit(g, datum, start, narrow)
			if e != api.OK || shift < x.Lo || shift > x.Hi {
				t.Fatalf("%v: Fit(%d, %d, %v) = %v, %d, the shift is %d", g, datum, start, narrow, x, e, shift)
			}
			y, _ := tide.Fit(g, datum, start, wide)
			z, _ := tide.Fit(fewer, datum, start, narrow)
			if y.Lo > x.Lo || y.Hi < x.Hi || z.Lo > x.Lo || z.Hi < x.Hi {
				t.Fatalf("%v: Fit(%d) = %v, and %v and %v by less", g, datum, x, y, z)
			}
		}
	}
}
