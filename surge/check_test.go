package surge_test

import (
	"math"
	"reflect"
	"testing"

	"barrage/api"
	"barrage/probe"
	"barrage/surge"
)

// P2.1
func TestCheckNumbers(t *testing.T) {
	task := storm()
	task.Gauges = []api.TdGauge{gauge("a", 0, 1, 2), gauge("b", 0, 1, 2), gauge("c", 0, 1, 2)}
	look := func() (part, at int, e api.Errno) { return surge.Check(task) }
	e := api.ErrRange
	probe.Ends(t, 1, 0, look,
		probe.Field("From", &task.From, 0, api.MaxTick-2, e),
		probe.Field("Ticks", &task.Ticks, 1, api.MaxSgTicks, e),
		probe.Field("Mean", &task.Table.Mean, api.MinLevel, api.MaxLevel, e),
	)
	probe.Ends(t, 2, 0, look, probe.Field("Wrong", &task.Wrong, 0, 2, e), probe.Field("Error of a gauge", &task.Gauges[0].Error, 0, api.MaxTdError, e))
	probe.Ends(t, 2, 2, look, probe.Field("Rate of a gauge", &task.Gauges[2].Rate, 0, api.MaxTdRate, e))
	probe.Ends(t, 3, 0, look,
		probe.Field("Least", &task.Least, -api.MaxSgSurge, 0, e),
		probe.Field("Most", &task.Most, 0, api.MaxSgSurge, e),
		probe.Field("Rate", &task.Rate, 1, api.MaxTdRate, e),
		probe.Field("Quorum", &task.Quorum, 0, 2, e),
	)
	probe.Ends(t, 4, 1, look,
		probe.Field("Late", &task.Centres[1].Late, 0, api.MaxSgLate, e),
		probe.Field("Base", &task.Centres[1].Base, 0, api.MaxSgError, e),
		probe.Field("Growth", &task.Centres[1].Growth, 0, api.MaxSgGrowth, e),
	)
	probe.Ends(t, 5, 2, look,
		probe.Field("Centre", &task.Forecasts[2].Centre, 0, 1, api.ErrNone),
		probe.Field("Issued", &task.Forecasts[2].Issued, 0, api.MaxTick, e),
		probe.Field("From of a forecast", &task.Forecasts[2].From, 0, api.MaxTick, e),
		probe.Field("a value", &task.Forecasts[2].Members[0][2], -api.MaxSgSurge, api.MaxSgSurge, e),
	)
}

// manyCentres and others return so many of each, without an error.
func manyCentres(n int) (l []api.SgCentre) {
	for i := range n {
		l = append(l, api.SgCentre{Name: string(rune('a' + i))})
	}
	return l
}

func manyForecasts(n int) (l []api.SgForecast) {
	for i := range n {
		l = append(l, api.SgForecast{Issued: i, Members: [][]int{{i}}})
	}
	return l
}

func manyGauges(n int) (l []api.TdGauge) {
	for i := range n {
		l = append(l, gauge(string(rune('a'+i)), 0, 1, 2))
	}
	return l
}

func manyMembers(n, values int) (l [][]int) {
	for range n {
		l = append(l, make([]int, values))
	}
	return l
}

// checkCase changes storm, and says what Check returns then.
type checkCase struct {
	change   func(t *api.SgTask)
	part, at int
	e        api.Errno
}

func testCheck(t *testing.T, l []checkCase) {
	t.Helper()
	for i, c := range l {
		task := storm()
		c.change(&task)
		if part, at, e := surge.Check(task); part != c.part || at != c.at || e != c.e {
			t.Errorf("%d: Check = %d, %d, %d, want %d, %d, %d", i, part, at, e, c.part, c.at, c.e)
		}
		if c.e != api.OK {
			testFirst(t, task, c.e)
		}
	}
}

func TestCheckRight(t *testing.T) {
	testCheck(t, []checkCase{
		{func(t *api.SgTask) {}, 0, 0, api.OK},
		{func(t *api.SgTask) { t.Centres, t.Forecasts, t.Quorum = nil, nil, 0 }, 0, 0, api.OK},
		{func(t *api.SgTask) { t.Centres, t.Quorum = manyCentres(api.MaxSgCentres), api.MaxSgCentres }, 0, 0, api.OK},
		{func(t *api.SgTask) { t.Forecasts = manyForecasts(api.MaxSgForecasts) }, 0, 0, api.OK},
		{func(t *api.SgTask) { t.Gauges, t.Wrong = manyGauges(api.MaxTdGauges), api.MaxTdGauges-1 }, 0, 0, api.OK},
		{func(t *api.SgTask) { t.Forecasts[0].Members = manyMembers(api.MaxSgMembers, api.MaxSgValues) }, 0, 0, api.OK},
		{func(t *api.SgTask) { t.Forecasts[0].Members = manyMembers(1, 1) }, 0, 0, api.OK},
		{func(t *api.SgTask) { t.Forecasts[1].Issued = 88 }, 0, 0, api.OK},
	})
}

func TestCheckParts(t *testing.T) {
	testCheck(t, []checkCase{
		{func(t *api.SgTask) { t.Table.Consts = make([]api.TdConst, api.MaxTdConsts+1) }, 1, 0, api.ErrLong},
		{func(t *api.SgTask) { t.Table.Consts = make([]api.TdConst, 2) }, 1, 0, api.ErrForm},
		{func(t *api.SgTask) { t.Gauges = manyGauges(api.MaxTdGauges + 1) }, 2, 0, api.ErrLong},
		{func(t *api.SgTask) { t.Gauges = manyGauges(3); t.Gauges[1].Name = "-" }, 2, 1, api.ErrForm},
		{func(t *api.SgTask) { t.Gauges = manyGauges(3); t.Gauges[2].Datums = nil }, 2, 2, api.ErrLong},
		{func(t *api.SgTask) { t.Gauges = manyGauges(3); t.Gauges[2].Name = "a" }, 2, 2, api.ErrTwice},
		{func(t *api.SgTask) { t.Wrong = 1 }, 2, 0, api.ErrRange},
		{func(t *api.SgTask) { t.Wrong = -1 }, 2, 0, api.ErrRange},
		{func(t *api.SgTask) { t.Gauges, t.Wrong = manyGauges(1), 1 }, 2, 0, api.ErrRange},
		{func(t *api.SgTask) { t.Centres = manyCentres(api.MaxSgCentres + 1) }, 3, 0, api.ErrLong},
		{func(t *api.SgTask) { t.Forecasts = manyForecasts(api.MaxSgForecasts + 1) }, 3, 0, api.ErrLong},
		{func(t *api.SgTask) { t.Centres, t.Forecasts = nil, nil }, 3, 0, api.ErrRange},
		{func(t *api.SgTask) { t.Centres[1].Name = "" }, 4, 1, api.ErrForm},
		{func(t *api.SgTask) { t.Centres[1].Name = "met" }, 4, 1, api.ErrTwice},
		{func(t *api.SgTask) { t.Centres, t.Quorum = nil, 0 }, 5, 0, api.ErrNone},
		{func(t *api.SgTask) { t.Forecasts[1].Members = nil }, 5, 1, api.ErrLong},
		{func(t *api.SgTask) { t.Forecasts[1].Members = manyMembers(api.MaxSgMembers+1, 2) }, 5, 1, api.ErrLong},
		{func(t *api.SgTask) { t.Forecasts[1].Members = manyMembers(2, api.MaxSgValues+1) }, 5, 1, api.ErrLong},
		{func(t *api.SgTask) { t.Forecasts[1].Members = [][]int{{1}, {}} }, 5, 1, api.ErrLong},
		{func(t *api.SgTask) { t.Forecasts[1].Members = [][]int{{1}, {1}, {1, 2}} }, 5, 1, api.ErrArg},
		{func(t *api.SgTask) { t.Forecasts[1].Members = [][]int{{1, 2}, {1}} }, 5, 1, api.ErrArg},
		{func(t *api.SgTask) { t.Forecasts[1].Members = [][]int{{1, 2}, {3, -10001}} }, 5, 1, api.ErrRange},
		{func(t *api.SgTask) { t.Forecasts[2].Issued = 88 }, 5, 2, api.ErrTwice},
		{func(t *api.SgTask) { t.Forecasts = manyForecasts(9); t.Forecasts[8].Issued = 3 }, 5, 8, api.ErrTwice},
	})
}

// All of one part comes before the next one; of one element the error that is named first, and the first element with one.
func TestCheckOrder(t *testing.T) {
	testCheck(t, []checkCase{
		{func(t *api.SgTask) { t.Ticks, t.Table.Mean, t.Table.Consts = 0, 0, make([]api.TdConst, 13) }, 1, 0, api.ErrRange},
		{func(t *api.SgTask) { t.From, t.Table.Consts = -1, make([]api.TdConst, 13) }, 1, 0, api.ErrLong},
		{func(t *api.SgTask) { t.From, t.Gauges = math.MaxInt, manyGauges(9) }, 1, 0, api.ErrRange},
		{func(t *api.SgTask) { t.Gauges, t.Wrong = make([]api.TdGauge, 9), -1 }, 2, 0, api.ErrLong},
		{func(t *api.SgTask) { t.Gauges, t.Wrong = manyGauges(3), 3; t.Gauges[2].Name = "a" }, 2, 2, api.ErrTwice},
		{func(t *api.SgTask) { t.Gauges = manyGauges(3); t.Gauges[1].Name, t.Gauges[2].Error = "a", -1 }, 2, 1, api.ErrTwice},
		{func(t *api.SgTask) { t.Gauges = manyGauges(2); t.Gauges[1].Name, t.Gauges[1].Error = "a", -1 }, 2, 1, api.ErrRange},
		{func(t *api.SgTask) { t.Wrong, t.Centres = 1, manyCentres(5) }, 2, 0, api.ErrRange},
		{func(t *api.SgTask) { t.Rate, t.Centres = 0, manyCentres(5) }, 3, 0, api.ErrLong},
		{func(t *api.SgTask) { t.Rate, t.Centres[0].Name = 0, "" }, 3, 0, api.ErrRange},
		{func(t *api.SgTask) { t.Centres[0].Late, t.Centres[1].Name = -1, "" }, 4, 0, api.ErrRange},
		{func(t *api.SgTask) { t.Centres[1].Late, t.Centres[1].Name = -1, "Met" }, 4, 1, api.ErrForm},
		{func(t *api.SgTask) { t.Centres[1].Late, t.Centres[1].Name = -1, "met" }, 4, 1, api.ErrTwice},
		{func(t *api.SgTask) { t.Centres[1].Late, t.Forecasts[0].Centre = -1, 2 }, 4, 1, api.ErrRange},
		{func(t *api.SgTask) { t.Forecasts[0].Issued, t.Forecasts[1].Centre = -1, 2 }, 5, 0, api.ErrRange},
		{func(t *api.SgTask) { t.Forecasts[1] = api.SgForecast{Centre: 2, Issued: -1} }, 5, 1, api.ErrNone},
		{func(t *api.SgTask) { t.Forecasts[1].Issued, t.Forecasts[1].Members = -1, nil }, 5, 1, api.ErrRange},
		{func(t *api.SgTask) { t.Forecasts[1].From, t.Forecasts[1].Members = -1, nil }, 5, 1, api.ErrRange},
		{func(t *api.SgTask) { t.Forecasts[1].Members = [][]int{{1, 2}, {1}, {}} }, 5, 1, api.ErrLong},
		{func(t *api.SgTask) { t.Forecasts[1].Members = [][]int{{10001, 2}, {1}} }, 5, 1, api.ErrArg},
		{func(t *api.SgTask) { t.Forecasts[2].Issued, t.Forecasts[2].Members[0][0] = 88, 10001 }, 5, 2, api.ErrRange},
	})
}

// A now, then or tick that is none comes before what a function says of its own.
func TestTicks(t *testing.T) {
	for _, tick := range []int{-1, api.MaxTick + 1, math.MinInt, math.MaxInt} {
		task := storm()
		_, e1 := surge.Current(task, tick)
		_, e2 := surge.Error(task, -1, tick)
		_, e3 := surge.Base(task, tick)
		_, e4 := surge.Boxes(task, tick)
		_, e5 := surge.Possible(task, tick)
		_, _, e6 := surge.Envelope(task, tick)
		_, e7 := surge.Peak(task, tick)
		_, e8 := surge.Right(task, tick, api.Series{})
		_, e9 := surge.Is(task, tick, api.Series{})
		_, e10 := surge.Ruled(task, tick, 90)
		_, e11 := surge.Ruled(task, 90, tick)
		_, e12 := surge.Suspects(task, tick)
		for i, e := range []api.Errno{e1, e2, e3, e4, e5, e6, e7, e8, e9, e10, e11, e12} {
			if e != api.ErrRange {
				t.Errorf("tick %d: error %d of call %d", tick, e, i+1)
			}
		}
	}
	for _, tick := range []int{0, api.MaxTick} {
		if _, e := surge.Current(storm(), tick); e != api.OK {
			t.Errorf("tick %d: error %d", tick, e)
		}
	}
}

// callAll calls each function of the package, and returns all that came of it.
func callAll(task api.SgTask, a, b int, s api.Series) []any {
	surge.Check(task)
	current, _ := surge.Current(task, a)
	surge.Error(task, a, b)
	base, _ := surge.Base(task, a)
	tube, _ := surge.Tube(task, a, b)
	first, _ := surge.Tube(task, 0, 0)
	boxes, _ := surge.Boxes(task, a)
	possible, _ := surge.Possible(task, a)
	low, high, _ := surge.Envelope(task, a)
	surge.Peak(task, a)
	right, _ := surge.Right(task, a, s)
	surge.Is(task, a, s)
	ruled, _ := surge.Ruled(task, a, b)
	suspects, _ := surge.Suspects(task, a)
	return []any{current, base, tube, first, boxes, possible, low, high, right, ruled, suspects}
}

// P2.15: any arguments are accepted, and not modified.
func TestAnyArguments(t *testing.T) {
	wild := api.SgTask{From: math.MaxInt, Ticks: math.MinInt, Wrong: math.MinInt, Least: math.MaxInt, Most: math.MinInt, Rate: math.MaxInt, Quorum: math.MinInt}
	late := storm()
	late.From, late.Ticks = math.MaxInt, 96
	odd := storm()
	odd.Forecasts[0] = api.SgForecast{Centre: math.MinInt, Issued: math.MaxInt, From: math.MinInt, Members: [][]int{nil, {math.MinInt}}}
	edge := storm()
	edge.From, edge.Forecasts[0].From, edge.Forecasts[1].Issued = api.MaxTick-2, api.MaxTick, api.MaxTick
	lists := []api.Series{{}, series(1000, 1500, 2000), {From: math.MinInt, Values: []int{math.MinInt, math.MaxInt, 0}}, series(math.MinInt, math.MaxInt, 0), series(api.MinLevel, api.MaxLevel, 0)}
	ticks := []int{math.MinInt, -1, 0, 1, 89, 95, 96, 101, api.MaxTick, api.MaxTick + 1, math.MaxInt}
	for _, task := range []api.SgTask{{}, storm(), watched(0, 3000), watched(-20000, -20000), wild, late, odd, edge} {
		for _, s := range lists {
			for _, a := range ticks {
				for _, b := range ticks {
					before, values := copyTask(task), append([]int(nil), s.Values...)
					callAll(task, a, b, s)
					if !reflect.DeepEqual(task, before) || !reflect.DeepEqual(values, append([]int(nil), s.Values...)) {
						t.Fatalf("arguments changed: %v, %v, %d, %d", task, s, a, b)
					}
				}
			}
		}
	}
}

// spoil overwrites all numbers of a result.
func spoil(x any) {
	switch x := x.(type) {
	case []int:
		for i := range x {
			x[i] = 7777
		}
	case []bool:
		for i := range x {
			x[i] = !x[i]
		}
	case []api.Span:
		for i := range x {
			x[i] = sp(7777, 7777)
		}
	case api.Series:
		spoil(x.Values)
	case []api.Series:
		for _, s := range x {
			spoil(s.Values)
		}
	case []api.SgBox:
		for _, b := range x {
			spoil(b.Members)
			spoil(b.Low.Values)
			spoil(b.High.Values)
		}
	}
}

// P2.15: results are new memory, also those of one call.
func TestNewMemory(t *testing.T) {
	task, s := watched(0, 3000), series(1000, 1500, 2000)
	want := callAll(task, 95, 96, s)
	for i := range want {
		got := callAll(task, 95, 96, s)
		spoil(got[i])
		for j := range want {
			if j != i && !reflect.DeepEqual(got[j], want[j]) {
				t.Errorf("results %d and %d share memory", i, j)
			}
		}
	}
	if again := callAll(task, 95, 96, s); !reflect.DeepEqual(again, want) || !reflect.DeepEqual(task, watched(0, 3000)) {
		t.Errorf("a result shares memory")
	}
	boxes, _ := surge.Boxes(task, 95)
	for i := range boxes {
		other, _ := surge.Boxes(task, 95)
		spoil(other[i : i+1])
		if !reflect.DeepEqual(append(other[:i:i], other[i+1:]...), append(boxes[:i:i], boxes[i+1:]...)) {
			t.Errorf("boxes share memory")
		}
	}
}
