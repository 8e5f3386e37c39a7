package surge_test

import (
	"math/rand/v2"
	"slices"
	"testing"

	"barrage/api"
	"barrage/surge"
	"barrage/tide"
)

// someStorm returns a random task, and levels from the tick 0 on that come about as P2.8 has it: Wrong gauges, and the centres beyond the Quorum, say anything.
func someStorm(r *rand.Rand) (api.SgTask, []int) {
	t := api.SgTask{From: from(r, 20, 30), Ticks: from(r, 1, 12), Least: -from(r, 0, 60), Most: from(r, 0, 200), Rate: from(r, 5, 40)}
	t.Table = api.TdTable{Mean: 50, Consts: []api.TdConst{{Name: "moon", Heights: []int{0, 20, 0, -20}, Step: 1, Den: 9, Slack: from(r, 0, 9)}}}
	levels := someLevels(r, t)
	gauges := r.IntN(4)
	t.Wrong = r.IntN(max(gauges, 1))
	for i := range gauges {
		t.Gauges = append(t.Gauges, someGauge(r, string(rune('a'+i)), levels, t.Rate, i >= t.Wrong))
	}
	centres := r.IntN(4)
	t.Quorum = r.IntN(centres + 1)
	for i := range centres {
		t.Centres = append(t.Centres, api.SgCentre{Name: string(rune('a' + i)), Late: r.IntN(9), Base: r.IntN(20), Growth: r.IntN(9)})
	}
	for centre := range centres {
		for issued := r.IntN(20); issued < 40 && len(t.Forecasts) < api.MaxSgForecasts; issued += from(r, 1, 20) {
			t.Forecasts = append(t.Forecasts, someForecast(r, t, centre, issued, levels, centre < t.Quorum))
		}
	}
	return t, levels
}

// someLevels returns levels with the tide and a surge within its limits that keep the rate.
func someLevels(r *rand.Rand, t api.SgTask) []int {
	var levels []int
	for tick := range 60 {
		x, _ := tide.Level(t.Table, tick)
		lo, hi := x.Lo+t.Least, x.Hi+t.Most
		if tick > 0 {
			lo, hi = max(lo, levels[tick-1]-t.Rate), min(hi, levels[tick-1]+t.Rate)
		}
		levels = append(levels, from(r, lo, hi))
	}
	return levels
}

// someGauge reads some of the levels with an error, or anything.
func someGauge(r *rand.Rand, name string, levels []int, rate int, isRight bool) api.TdGauge {
	g := api.TdGauge{Name: name, Error: r.IntN(30), Rate: rate, Datums: []api.TdDatum{{}}}
	for tick := 0; tick < len(levels); tick += from(r, 1, 15) {
		value := levels[tick] + from(r, -g.Error, g.Error)
		if !isRight {
			value = from(r, -500, 500)
		}
		g.Readings = append(g.Readings, api.TdReading{Tick: tick, Value: value})
	}
	return g
}

// someForecast returns a forecast one member of which differs from a surge that makes the levels by at most its error, if it is right; at each tick this is another difference, up to the whole error.
func someForecast(r *rand.Rand, t api.SgTask, centre, issued int, levels []int, isRight bool) api.SgForecast {
	c := t.Centres[centre]
	f := api.SgForecast{Centre: centre, Issued: issued, From: from(r, 15, 35)}
	n := from(r, 1, 20)
	for range from(r, 1, 4) {
		f.Members = append(f.Members, someValues(r, n, 300))
	}
	if !isRight {
		return f
	}
	m := f.Members[r.IntN(len(f.Members))]
	for i := range m {
		tick := f.From + i
		x, _ := tide.Level(t.Table, tick)
		hours := 0
		for issued+hours*api.Hour < tick {
			hours++
		}
		wrong := c.Base + c.Growth*hours
		surge := levels[tick] - []int{x.Lo, x.Hi, from(r, x.Lo, x.Hi)}[r.IntN(3)]
		m[i] = surge + []int{-wrong, wrong, from(r, -wrong, wrong)}[r.IntN(3)]
	}
	return f
}

// isTrusted reports whether as many centres are right as are needed: the first ones of a storm are, as soon as they are known.
func isTrusted(t api.SgTask, now int) bool {
	right := 0
	for _, current := range counted(t, now)[:t.Quorum] {
		if current >= 0 {
			right++
		}
	}
	return right >= asked(t, now)
}

// P2.8, P2.9
func TestTruthIsPossible(t *testing.T) {
	r := random()
	for range 2000 {
		task, levels := someStorm(r)
		s := api.Series{From: task.From, Values: levels[task.From : task.From+task.Ticks]}
		for now := 0; now < 60; now += from(r, 1, 20) {
			if !isTrusted(task, now) {
				continue
			}
			if is, e := surge.Is(task, now, s); !is || e != api.OK {
				t.Fatalf("%v: Is(%d) of %v = %t, %d", task, now, s, is, e)
			}
			low, high, e := surge.Envelope(task, now)
			peak, f := surge.Peak(task, now)
			top := slices.Max(s.Values)
			out := func(i int) bool { return s.Values[i] < low.Values[i] || s.Values[i] > high.Values[i] }
			if e != api.OK || f != api.OK || slices.ContainsFunc(indices(task.Ticks), out) || top < peak.Lo || top > peak.Hi {
				t.Fatalf("%v: %v is not in %v, %v, %d, or %v, %d", task, s, low, high, e, peak, f)
			}
		}
	}
}

// P2.10
func TestBoxesArePossible(t *testing.T) {
	r := random()
	for range 1000 {
		task, _ := someStorm(r)
		now := r.IntN(60)
		boxes, e := surge.Boxes(task, now)
		if e != api.OK {
			t.Fatalf("%v: Boxes(%d): %d", task, now, e)
		}
		for _, b := range boxes {
			for _, s := range []api.Series{b.Low, b.High} {
				if is, e := surge.Is(task, now, s); !is || e != api.OK {
					t.Fatalf("%v: Is(%d) of %v = %t, %d", task, now, s, is, e)
				}
			}
		}
	}
}

// answers returns all that is told of the histories by what is known at a tick, without the indices of forecasts.
func answers(t *testing.T, task api.SgTask, now int) ([]api.SgBox, []api.Series, []api.Span, []int) {
	t.Helper()
	boxes, e := surge.Boxes(task, now)
	tops, f := surge.Possible(task, now)
	base, _ := surge.Base(task, now)
	suspects, g := surge.Suspects(task, now)
	if e != api.OK || f != api.OK || g != api.OK {
		t.Fatalf("%v: errors %d, %d, %d", task, e, f, g)
	}
	return boxes, tops, base, suspects
}

// P2.11: with all that is not known yet, and what is replaced, taken away or changed, nothing changes.
func TestUnknownChangesNothing(t *testing.T) {
	r := random()
	for range 1000 {
		task, _ := someStorm(r)
		now := r.IntN(60)
		counts := counted(task, now)
		other := copyTask(task)
		other.Forecasts = nil
		for i, f := range copyTask(task).Forecasts {
			if !slices.Contains(counts, i) && r.IntN(2) > 0 {
				continue
			}
			if !slices.Contains(counts, i) {
				f.Members = [][]int{someValues(r, 3, 9000)}
			}
			other.Forecasts = append(other.Forecasts, f)
		}
		for i := range other.Gauges {
			g := &other.Gauges[i]
			if r.IntN(2) > 0 {
				g.Readings = slices.DeleteFunc(g.Readings, func(x api.TdReading) bool { return x.Tick > now })
			}
			for j := range g.Readings {
				if g.Readings[j].Tick > now {
					g.Readings[j].Value = from(r, -9000, 9000)
				}
			}
		}
		boxes, tops, base, suspects := answers(t, task, now)
		boxes2, tops2, base2, suspects2 := answers(t, other, now)
		if !sameBoxes(boxes, boxes2) || !sameSeries(tops, tops2) || !slices.Equal(base, base2) || !slices.Equal(suspects, suspects2) {
			t.Fatalf("%v at %d: %v, and %v with what is not known changed", task, now, boxes, boxes2)
		}
	}
}

// P2.12
func TestLater(t *testing.T) {
	r := random()
	looked := 0
	for range 3000 {
		task := someTask(r)
		task.Wrong = 0
		then := r.IntN(14)
		now := from(r, then, 17)
		isNew := func(f api.SgForecast) bool {
			at := f.Issued + task.Centres[f.Centre].Late
			return at > then && at <= now
		}
		isUnsound := func(i int) bool {
			_, e := tide.Sound(task.Gauges, 0, task.From+i, now)
			return e != api.OK
		}
		if slices.ContainsFunc(task.Forecasts, isNew) || slices.ContainsFunc(indices(task.Ticks), isUnsound) {
			continue
		}
		boxes, _ := surge.Boxes(task, now)
		for _, b := range boxes {
			looked++
			for _, s := range []api.Series{b.Low, b.High, between(r, task.Rate, b)} {
				if is, e := surge.Is(task, now, s); !is || e != api.OK {
					t.Fatalf("%v: Is(%d) of %v = %t, %d", task, now, s, is, e)
				}
				if is, e := surge.Is(task, then, s); !is || e != api.OK {
					t.Fatalf("%v: Is(%d) of %v, possible at %d, = %t, %d", task, then, s, now, is, e)
				}
			}
		}
	}
	if looked < 100 {
		t.Errorf("only %d boxes were looked at", looked)
	}
}

// between returns a random history of a box.
func between(r *rand.Rand, rate int, b api.SgBox) api.Series {
	s := api.Series{From: b.Low.From}
	for i := range b.Low.Values {
		lo, hi := b.Low.Values[i], b.High.Values[i]
		if i > 0 {
			lo, hi = max(lo, s.Values[i-1]-rate), min(hi, s.Values[i-1]+rate)
		}
		s.Values = append(s.Values, from(r, lo, hi))
	}
	return s
}

// P2.13
func TestMore(t *testing.T) {
	r := random()
	for range 1500 {
		task, now := someTask(r), r.IntN(18)
		boxes, _ := surge.Boxes(task, now)
		more := copyTask(task)
		switch r.IntN(6) {
		case 0:
			more.Quorum = r.IntN(more.Quorum + 1)
		case 1:
			more.Rate++
		case 2:
			more.Most++
		case 3:
			more.Least--
		default:
			for i := range more.Centres {
				more.Centres[i].Base += r.IntN(2)
				more.Centres[i].Growth += r.IntN(2)
			}
		}
		for _, b := range boxes {
			for _, s := range []api.Series{b.Low, b.High, between(r, task.Rate, b), between(r, task.Rate, b)} {
				if is, e := surge.Is(more, now, s); !is || e != api.OK {
					t.Fatalf("%v: Is(%d) of %v = %t, %d", more, now, s, is, e)
				}
			}
		}
	}
}

// A great task takes no long time: the most boxes over the most ticks, and all gauges.
func TestGreatTask(t *testing.T) {
	task := crowd(api.MaxSgCentres, api.MaxSgMembers, 3)
	task.Ticks, task.Gauges = api.MaxSgTicks, manyGauges(api.MaxTdGauges)
	for i := range task.Gauges {
		task.Gauges[i].Rate, task.Gauges[i].Readings = 50, nil
		for tick := range api.MaxTdReadings {
			task.Gauges[i].Readings = append(task.Gauges[i].Readings, api.TdReading{Tick: 90 + tick, Value: 50})
		}
	}
	for i := range task.Forecasts {
		for j := range task.Forecasts[i].Members {
			m := make([]int, api.MaxSgTicks)
			m[i*20+j] = 60
			task.Forecasts[i].Members[j] = m
		}
		task.Centres[i].Base = 100
	}
	boxes, e := surge.Boxes(task, 200)
	tops, f := surge.Possible(task, 200)
	ruled, g := surge.Ruled(task, 200, 100)
	if len(boxes) != 256 || len(tops) == 0 || len(ruled) != 0 || e != api.OK || f != api.OK || g != api.OK {
		t.Errorf("%d boxes, %d histories, %v; errors %d, %d, %d", len(boxes), len(tops), ruled, e, f, g)
	}
}
