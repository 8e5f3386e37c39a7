package surge_test

import (
	"math/rand/v2"
	"slices"
	"testing"

	"barrage/api"
	"barrage/surge"
)

// sp returns a span.
func sp(lo, hi int) api.Span { return api.Span{Lo: lo, Hi: hi} }

// random returns the same numbers in each run of a test.
func random() *rand.Rand { return rand.New(rand.NewPCG(2, 2)) }

// from returns a random number from lo to hi.
func from(r *rand.Rand, lo, hi int) int { return lo + r.IntN(hi-lo+1) }

// series returns a history from the tick 100 on.
func series(values ...int) api.Series { return api.Series{From: 100, Values: values} }

// storm is the chapter's T.
func storm() api.SgTask {
	return api.SgTask{
		From: 100, Ticks: 3, Least: -500, Most: 4000, Rate: 800, Quorum: 1,
		Centres: []api.SgCentre{{Name: "met", Late: 2, Base: 100, Growth: 50}, {Name: "ocean", Late: 5, Base: 200}},
		Forecasts: []api.SgForecast{
			{Centre: 0, Issued: 88, From: 100, Members: [][]int{{1000, 1500, 2000}, {500, 700, 900}}},
			{Centre: 1, Issued: 90, From: 101, Members: [][]int{{2500, 2600}}},
			{Centre: 0, Issued: 94, From: 100, Members: [][]int{{1200, 1800, 2600}}},
		},
	}
}

// watched is storm with gauges by which the level is from lo to hi at each tick, by what is known from the tick 99 on.
func watched(lo, hi int) api.SgTask {
	t := storm()
	t.Gauges = []api.TdGauge{gauge("pier", 99, lo, hi), gauge("lock", 99, lo, hi+1)}
	return t
}

// gauge returns a gauge that reads at a tick, and says just one span of all ticks.
func gauge(name string, tick, lo, hi int) api.TdGauge {
	return api.TdGauge{Name: name, Datums: []api.TdDatum{{Shift: sp(0, hi-lo)}}, Readings: []api.TdReading{{Tick: tick, Value: hi}}}
}

// testFirst checks that the error of a task comes before all others, with zero values.
func testFirst(t *testing.T, task api.SgTask, e api.Errno) {
	t.Helper()
	current, e1 := surge.Current(task, -1)
	mm, e2 := surge.Error(task, -1, -1)
	base, e3 := surge.Base(task, -1)
	tube, e4 := surge.Tube(task, -1, -1)
	boxes, e5 := surge.Boxes(task, -1)
	possible, e6 := surge.Possible(task, -1)
	low, high, e7 := surge.Envelope(task, -1)
	peak, e8 := surge.Peak(task, -1)
	right, e9 := surge.Right(task, -1, api.Series{From: -1})
	is, e10 := surge.Is(task, -1, api.Series{From: -1})
	ruled, e11 := surge.Ruled(task, -1, -1)
	suspects, e12 := surge.Suspects(task, -1)
	for i, got := range []api.Errno{e1, e2, e3, e4, e5, e6, e7, e8, e9, e10, e11, e12} {
		if got != e {
			t.Errorf("%v: error %d of function %d, want %d", task, got, i+1, e)
		}
	}
	if current != nil || mm != 0 || base != nil || tube != nil || boxes != nil || possible != nil || low.Values != nil || low.From != 0 || high.Values != nil || high.From != 0 || peak != sp(0, 0) || right != nil || is || ruled != nil || suspects != nil {
		t.Errorf("%v: a result is not zero", task)
	}
}

// sameSeries reports whether two lists of histories are the same.
func sameSeries(a, b []api.Series) bool {
	return slices.EqualFunc(a, b, func(a, b api.Series) bool { return a.From == b.From && slices.Equal(a.Values, b.Values) })
}

// sameBoxes reports whether two lists of boxes are the same.
func sameBoxes(a, b []api.SgBox) bool {
	return slices.EqualFunc(a, b, func(a, b api.SgBox) bool {
		return slices.Equal(a.Members, b.Members) && sameSeries([]api.Series{a.Low, a.High}, []api.Series{b.Low, b.High})
	})
}

func copyTask(t api.SgTask) api.SgTask {
	t.Table.Consts = slices.Clone(t.Table.Consts)
	for i := range t.Table.Consts {
		t.Table.Consts[i].Heights = slices.Clone(t.Table.Consts[i].Heights)
	}
	t.Gauges = slices.Clone(t.Gauges)
	for i := range t.Gauges {
		t.Gauges[i].Datums = slices.Clone(t.Gauges[i].Datums)
		t.Gauges[i].Readings = slices.Clone(t.Gauges[i].Readings)
	}
	t.Centres = slices.Clone(t.Centres)
	t.Forecasts = slices.Clone(t.Forecasts)
	for i := range t.Forecasts {
		t.Forecasts[i].Members = slices.Clone(t.Forecasts[i].Members)
		for j := range t.Forecasts[i].Members {
			t.Forecasts[i].Members[j] = slices.Clone(t.Forecasts[i].Members[j])
		}
	}
	return t
}
