package surge_test

import (
	"slices"
	"testing"

	"barrage/api"
	"barrage/surge"
)

// P2.2
func TestCurrent(t *testing.T) {
	more := storm()
	more.Centres = append(more.Centres, api.SgCentre{Name: "none"})
	slices.Reverse(more.Forecasts)
	for i, c := range []struct {
		task api.SgTask
		now  int
		want []int
	}{
		{storm(), 0, []int{-1, -1}}, {storm(), 89, []int{-1, -1}}, {storm(), 90, []int{0, -1}}, {storm(), 94, []int{0, -1}}, {storm(), 95, []int{0, 1}}, {storm(), 96, []int{2, 1}}, {storm(), api.MaxTick, []int{2, 1}},
		// Which one is issued last does not depend on the order of the forecasts.
		{more, 95, []int{2, 1, -1}}, {more, 96, []int{0, 1, -1}},
	} {
		if l, e := surge.Current(c.task, c.now); !slices.Equal(l, c.want) || e != api.OK {
			t.Errorf("%d: Current(%d) = %v, %d, want %v", i, c.now, l, e, c.want)
		}
	}
	empty := storm()
	empty.Centres, empty.Forecasts, empty.Quorum = nil, nil, 0
	if l, e := surge.Current(empty, 95); len(l) != 0 || e != api.OK {
		t.Errorf("Current = %v, %d", l, e)
	}
}

func TestError(t *testing.T) {
	for _, c := range []struct{ forecast, tick, want int }{
		{0, 0, 100}, {0, 87, 100}, {0, 88, 100}, {0, 89, 150}, {0, 93, 150}, {0, 94, 150}, {0, 95, 200}, {0, 100, 200}, {0, 101, 250},
		{1, 90, 200}, {1, 150, 200}, {2, 94, 100}, {2, 95, 150}, {0, api.MaxTick, 100 + 50*33319},
	} {
		if x, e := surge.Error(storm(), c.forecast, c.tick); x != c.want || e != api.OK {
			t.Errorf("Error(%d, %d) = %d, %d, want %d", c.forecast, c.tick, x, e, c.want)
		}
	}
	for _, forecast := range []int{-1, 3, 1 << 62, -1 << 63} {
		if x, e := surge.Error(storm(), forecast, 100); x != 0 || e != api.ErrNone {
			t.Errorf("Error(%d) = %d, %d", forecast, x, e)
		}
	}
	if x, e := surge.Error(storm(), 3, -1); x != 0 || e != api.ErrRange {
		t.Errorf("Error = %d, %d", x, e)
	}
}

func TestTube(t *testing.T) {
	all := sp(api.MinLevel, api.MaxLevel)
	tidal := storm()
	tidal.Table = api.TdTable{Mean: 10, Consts: []api.TdConst{{Name: "moon", Heights: []int{0, 4}, Step: 1, Den: 1, Slack: 3}}}
	early := storm()
	early.Forecasts[0].From = 98
	before := storm()
	before.Forecasts[0].From = 97
	after := storm()
	after.Forecasts[0].From = 103
	high := storm()
	high.Table.Mean, high.Forecasts[0].Members[0] = api.MaxLevel, []int{10000, -10000, 10000}
	for i, c := range []struct {
		task             api.SgTask
		forecast, member int
		want             []api.Span
	}{
		{storm(), 0, 0, []api.Span{sp(800, 1200), sp(1250, 1750), sp(1750, 2250)}},
		{storm(), 0, 1, []api.Span{sp(300, 700), sp(450, 950), sp(650, 1150)}},
		{storm(), 1, 0, []api.Span{all, sp(2300, 2700), sp(2400, 2800)}},
		{storm(), 2, 0, []api.Span{sp(1050, 1350), sp(1600, 2000), sp(2400, 2800)}},
		{tidal, 0, 0, []api.Span{sp(807, 1213), sp(1261, 1767), sp(1757, 2263)}},
		{early, 0, 0, []api.Span{sp(1800, 2200), all, all}},
		{before, 0, 0, []api.Span{all, all, all}},
		{after, 0, 0, []api.Span{all, all, all}},
		// A tube may reach beyond the levels.
		{high, 0, 0, []api.Span{sp(29800, 30200), sp(9750, 10250), sp(29750, 30250)}},
	} {
		if s, e := surge.Tube(c.task, c.forecast, c.member); !slices.Equal(s, c.want) || e != api.OK {
			t.Errorf("%d: Tube(%d, %d) = %v, %d, want %v", i, c.forecast, c.member, s, e, c.want)
		}
	}
	for _, x := range [][2]int{{-1, 0}, {3, 0}, {1, 1}, {0, 2}, {0, -1}, {-1 << 63, -1 << 63}, {1<<63 - 1, 0}, {0, 1<<63 - 1}} {
		if s, e := surge.Tube(storm(), x[0], x[1]); s != nil || e != api.ErrNone {
			t.Errorf("Tube(%d, %d) = %v, %d", x[0], x[1], s, e)
		}
	}
}

// P2.3
func TestBase(t *testing.T) {
	tidal := storm()
	tidal.Table = api.TdTable{Mean: 10, Consts: []api.TdConst{{Name: "moon", Heights: []int{0, 4}, Step: 1, Den: 1, Slack: 3}}}
	high, low := storm(), storm()
	high.Table.Mean, low.Table.Mean = 16500, -19600
	split := watched(0, 10)
	split.Gauges[1] = gauge("lock", 99, 20, 30)
	lone := watched(0, 10)
	lone.Gauges[1], lone.Wrong = gauge("lock", 99, 5, 30), 1
	moving := watched(0, 100)
	moving.Gauges[0].Rate, moving.Gauges[1].Rate = 7, 9
	for i, c := range []struct {
		task api.SgTask
		now  int
		want []api.Span
		e    api.Errno
	}{
		{storm(), 90, []api.Span{sp(-500, 4000), sp(-500, 4000), sp(-500, 4000)}, api.OK},
		{tidal, 90, []api.Span{sp(-493, 4013), sp(-489, 4017), sp(-493, 4013)}, api.OK},
		// The base is of levels.
		{high, 90, []api.Span{sp(16000, 20000), sp(16000, 20000), sp(16000, 20000)}, api.OK},
		{low, 90, []api.Span{sp(-20000, -15600), sp(-20000, -15600), sp(-20000, -15600)}, api.OK},
		// Gauges count from when they are known, and restrict nothing if they do not agree.
		{watched(0, 10), 98, []api.Span{sp(-500, 4000), sp(-500, 4000), sp(-500, 4000)}, api.OK},
		{watched(0, 10), 99, []api.Span{sp(0, 10), sp(0, 10), sp(0, 10)}, api.OK},
		{watched(-600, 10), 99, []api.Span{sp(-500, 10), sp(-500, 10), sp(-500, 10)}, api.OK},
		{watched(3999, 5000), 99, []api.Span{sp(3999, 4000), sp(3999, 4000), sp(3999, 4000)}, api.OK},
		{split, 99, []api.Span{sp(-500, 4000), sp(-500, 4000), sp(-500, 4000)}, api.OK},
		{lone, 99, []api.Span{sp(0, 30), sp(0, 30), sp(0, 30)}, api.OK},
		{moving, 99, []api.Span{sp(-7, 107), sp(-14, 114), sp(-21, 121)}, api.OK},
		{watched(4000, 5000), 99, []api.Span{sp(4000, 4000), sp(4000, 4000), sp(4000, 4000)}, api.OK},
		{watched(4001, 5000), 99, nil, api.ErrDown},
		{watched(-600, -501), 99, []api.Span{sp(-500, -500), sp(-500, -500), sp(-500, -500)}, api.ErrDown},
	} {
		if c.e != api.OK {
			c.want = nil
		}
		if s, e := surge.Base(c.task, c.now); !slices.Equal(s, c.want) || e != c.e {
			t.Errorf("%d: Base = %v, %d, want %v, %d", i, s, e, c.want, c.e)
		}
	}
}

// A base without levels at one of the ticks is enough.
func TestBaseDown(t *testing.T) {
	for _, lone := range []int{100, 101, 102} {
		task := storm()
		task.Least, task.Most = 0, 0
		task.Gauges = []api.TdGauge{{Name: "pier", Rate: 1, Datums: []api.TdDatum{{}}, Readings: []api.TdReading{{Tick: lone, Value: 1}}}}
		if s, e := surge.Base(task, 102); s != nil || e != api.ErrDown {
			t.Errorf("Base = %v, %d", s, e)
		}
		if s, e := surge.Base(task, lone-1); len(s) != 3 || e != api.OK {
			t.Errorf("Base = %v, %d", s, e)
		}
	}
}

// P2.6
func TestRightAndIs(t *testing.T) {
	both := storm()
	both.Quorum = 2
	free := storm()
	free.Quorum = 0
	for i, c := range []struct {
		task  api.SgTask
		now   int
		s     api.Series
		right []bool
		is    bool
	}{
		{storm(), 95, series(1000, 1500, 2000), []bool{true, false}, true},
		{storm(), 96, series(1000, 1500, 2000), []bool{false, false}, false},
		{storm(), 89, series(1000, 1500, 2000), []bool{false, false}, true},
		{storm(), 89, series(-500, -500, -500), []bool{false, false}, true},
		{storm(), 89, series(-501, -500, -500), []bool{false, false}, false},
		{storm(), 89, series(4000, 4000, 4001), []bool{false, false}, false},
		{storm(), 95, series(800, 1250, 1750), []bool{true, false}, true},
		{storm(), 95, series(799, 1250, 1750), []bool{false, false}, false},
		{storm(), 95, series(1200, 1750, 2250), []bool{true, false}, true},
		{storm(), 95, series(1200, 1750, 2251), []bool{false, false}, false},
		// All values have to be in the tube of one and the same member.
		{storm(), 95, series(1000, 1500, 900), []bool{false, false}, false},
		{storm(), 95, series(300, 450, 650), []bool{true, false}, true},
		{storm(), 95, series(3000, 2600, 2500), []bool{false, true}, true},
		// The rate holds from one tick to the next one, both ways.
		{storm(), 95, series(3500, 2700, 2800), []bool{false, true}, true},
		{storm(), 95, series(3501, 2700, 2800), []bool{false, true}, false},
		{storm(), 95, series(1500, 2300, 2400), []bool{false, true}, true},
		{storm(), 95, series(1499, 2300, 2400), []bool{false, true}, false},
		{storm(), 96, series(1300, 2000, 2801), []bool{false, false}, false},
		{storm(), 96, series(1300, 2000, 2800), []bool{true, false}, true},
		{storm(), 96, series(1300, 1999, 2800), []bool{true, false}, false},
		// As many centres as needed: not more than have a current forecast.
		{both, 89, series(0, 0, 0), []bool{false, false}, true},
		{both, 90, series(1000, 1500, 2000), []bool{true, false}, true},
		{both, 95, series(1000, 1500, 2000), []bool{true, false}, false},
		{free, 96, series(1000, 1500, 2000), []bool{false, false}, true},
		{watched(1000, 2000), 95, series(1000, 1500, 2000), []bool{true, false}, true},
		{watched(1001, 2000), 95, series(1000, 1500, 2000), []bool{true, false}, true},
		{watched(1001, 2000), 99, series(1000, 1500, 2000), []bool{false, false}, false},
		{watched(5000, 6000), 99, series(4000, 4000, 4000), []bool{false, false}, false},
	} {
		right, e := surge.Right(c.task, c.now, c.s)
		is, f := surge.Is(c.task, c.now, c.s)
		if !slices.Equal(right, c.right) || is != c.is || e != api.OK || f != api.OK {
			t.Errorf("%d: Right = %v, %d; Is = %t, %d", i, right, e, is, f)
		}
	}
}

// What is not a history of the task has an error, and what is not possible has none.
func TestNoHistory(t *testing.T) {
	for _, s := range []api.Series{{}, series(), series(1000, 1500), series(1000, 1500, 2000, 2000), {From: 99, Values: []int{1000, 1500, 2000}}, {From: -1 << 63, Values: []int{1000, 1500, 2000}}, series(20001, 0, 0), series(0, 0, -20001), series(0, 1<<63-1, -1<<63)} {
		right, e := surge.Right(storm(), 95, s)
		is, f := surge.Is(storm(), 95, s)
		if right != nil || is || e != api.ErrArg || f != api.ErrArg {
			t.Errorf("%v: Right = %v, %d; Is = %t, %d", s, right, e, is, f)
		}
	}
	for _, s := range []api.Series{series(20000, 0, 0), series(0, 0, -20000)} {
		if is, e := surge.Is(storm(), 95, s); is || e != api.OK {
			t.Errorf("Is of %v = %t, %d", s, is, e)
		}
	}
}
