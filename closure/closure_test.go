package closure_test

import (
	"math"
	"slices"
	"testing"

	"barrage/api"
	"barrage/closure"
)

// tight is a basin of a tenth of a m3 for each mm, in which there is room for 100 m3 above the first row.
func tight() api.BsBasin {
	return api.BsBasin{Rows: []api.BsRow{{Volume: api.MaxVolume - 100}, {Level: 1000, Volume: api.MaxVolume}}}
}

// with sets the river and the delay of a task.
func with(t api.ClTask, delay int, river ...int) api.ClTask {
	t.Delay, t.River = delay, river
	return t
}

// P5.2
func TestQuiet(t *testing.T) {
	for i, c := range []struct {
		k    api.ClTask
		want int
	}{
		{storm(), 15},
		{task(pond(), 100, []int{100, 100, -7}), 100}, {task(pond(), 100, []int{101, 100, 100}), 101}, {task(pond(), 100, []int{0, 101, 100}), 102}, {task(pond(), 100, []int{101, 0, 101}), 103},
		{task(pond(), 100, []int{101, 0, 0}, []int{0, 101, 0}, []int{0, 0, 0}), 102}, {task(pond(), 100, []int{0, 101, 0}, []int{101, 0, 0}), 102},
		{task(pond(), 100, []int{100}), 100}, {task(pond(), 100, []int{101}), 101},
	} {
		if tick, e := closure.Quiet(c.k); tick != c.want || e != api.OK {
			t.Errorf("%d: Quiet = %d, %d, want %d", i, tick, e, c.want)
		}
	}
}

func TestPlan(t *testing.T) {
	calm := task(pond(), 100, []int{0, 0, 0, 0})
	for i, c := range []struct {
		k    api.ClTask
		from int
		want api.ClPlan
		e    api.Errno
	}{
		{storm(), 10, plan(10, 15), api.OK}, {storm(), 13, plan(13, 15), api.OK}, {storm(), 14, plan(14, 16), api.OK},
		{storm(), 9, plan(0, 0), api.ErrRange}, {storm(), 15, plan(0, 0), api.ErrRange}, {storm(), -1, plan(0, 0), api.ErrRange},
		{storm(), math.MinInt, plan(0, 0), api.ErrRange}, {storm(), math.MaxInt, plan(0, 0), api.ErrRange},
		{calm, 100, plan(100, 101), api.OK}, {calm, 103, plan(103, 104), api.OK}, {calm, 104, plan(0, 0), api.ErrRange},
		{with(calm, 3, 0, 0, 0, 0), 100, plan(100, 104), api.OK}, {with(calm, 3, 0, 0, 0, 0), 101, plan(0, 0), api.ErrRange}, {with(calm, 4, 0, 0, 0, 0), 100, plan(0, 0), api.ErrRange},
	} {
		if p, e := closure.Plan(c.k, c.from); p != c.want || e != c.e {
			t.Errorf("%d: Plan from %d = %v, %d, want %v, %d", i, c.from, p, e, c.want, c.e)
		}
	}
}

// isInner checks that Inner returns the spans, without an error.
func isInner(t *testing.T, k api.ClTask, history int, p api.ClPlan, want ...api.Span) {
	t.Helper()
	if l, e := closure.Inner(k, history, p); !slices.Equal(l, want) || e != api.OK {
		t.Errorf("Inner of %d with %v = %v, %d, want %v", history, p, l, e, want)
	}
}

// P5.3
func TestInner(t *testing.T) {
	isInner(t, storm(), 0, plan(10, 15), sp(0, 0), sp(500, 500), sp(528, 529), sp(605, 606), sp(728, 729), sp(500, 500))
	isInner(t, storm(), 1, plan(10, 15), sp(0, 0), sp(0, 0), sp(28, 29), sp(55, 56), sp(81, 82), sp(0, 0))
	isInner(t, storm(), 0, not(), sp(0, 0), sp(500, 500), sp(1500, 1500), sp(2500, 2500), sp(1500, 1500), sp(500, 500))
	// To the end, and for a moment only.
	isInner(t, storm(), 1, plan(10, 16), sp(0, 0), sp(0, 0), sp(28, 29), sp(55, 56), sp(81, 82), sp(105, 106))
	isInner(t, storm(), 0, plan(14, 16), sp(0, 0), sp(500, 500), sp(1500, 1500), sp(2500, 2500), sp(1500, 1500), sp(500, 500))
}

// The state at each next tick follows from what there is at the tick before.
func TestInnerTicks(t *testing.T) {
	k := with(task(pond(), 100, []int{-50, 20, 300, 300, 40, 30}), 0, 10, 20, 40, 80, 160, 320)
	isInner(t, k, 0, plan(101, 104), sp(-50, -50), sp(20, 20), sp(22, 22), sp(26, 26), sp(40, 40), sp(30, 30))
	isInner(t, k, 0, plan(101, 106), sp(-50, -50), sp(20, 20), sp(22, 22), sp(26, 26), sp(34, 34), sp(50, 50))
	k.Out = 7
	isInner(t, k, 0, plan(101, 104), sp(-50, -50), sp(20, 20), sp(21, 22), sp(24, 25), sp(40, 40), sp(30, 30))
	// With a level below the first row the basin is at its first row.
	isInner(t, k, 0, plan(100, 103), sp(-50, -50), sp(0, 1), sp(1, 2), sp(300, 300), sp(40, 40), sp(30, 30))
	// With so much leaking the level inside is that outside a tick before.
	k.Out, k.Basin.Leak = 0, 10
	isInner(t, with(k, 1, 0, 0, 0, 0, 0, 0), 0, plan(100, 106), sp(-50, -50), sp(20, 20), sp(20, 20), sp(300, 300), sp(300, 300), sp(40, 40))
	isInner(t, with(k, 2, 0, 0, 0, 0, 0, 0), 0, plan(100, 105), sp(-50, -50), sp(20, 20), sp(300, 300), sp(300, 300), sp(300, 300), sp(30, 30))
}

// The polders have as much water in them as Filled says when the gates shut.
func TestInnerPolders(t *testing.T) {
	k := with(task(pond(), 100, []int{20, 20, 20, 20}), 1, 0, 0, 0, 0)
	k.Basin.Polders, k.Filled = []api.BsPolder{{Name: "a", Take: 1, Room: 50}}, []int{20}
	isInner(t, k, 0, plan(100, 104), sp(20, 20), sp(20, 20), sp(18, 18), sp(17, 17))
	k.Filled = []int{50}
	isInner(t, k, 0, plan(100, 104), sp(20, 20), sp(20, 20), sp(20, 20), sp(20, 20))
	k.Filled = []int{49}
	isInner(t, k, 0, plan(100, 104), sp(20, 20), sp(20, 20), sp(19, 20), sp(19, 20))
}

// The level at which the gates shut counts, and not that of the volume which there is then.
func TestInnerWhenShut(t *testing.T) {
	steep := api.BsBasin{Rows: []api.BsRow{{}, {Level: 7, Volume: 3}}}
	isInner(t, task(steep, 9, []int{6, 6, 6}), 0, plan(100, 102), sp(6, 6), sp(4, 5), sp(6, 6))
	isInner(t, task(steep, 9, []int{7, 7, 7}), 0, plan(100, 102), sp(7, 7), sp(7, 7), sp(7, 7))
	isInner(t, task(steep, 9, []int{-9, -8, -7}), 0, plan(101, 103), sp(-9, -9), sp(-8, -8), sp(0, 0))
}

// Which plans there are: at both ends of what Close and Open can be.
func TestPlans(t *testing.T) {
	late := with(task(pond(), 100, []int{0, 0, 0}), 3, 0, 0, 0)
	zero := api.ClTask{Basin: pond(), Histories: []api.Series{series(0, 0, 0)}, River: []int{0, 0}}
	end := api.ClTask{Basin: pond(), Histories: []api.Series{series(199999, 0, 0)}, River: []int{0, 0}}
	for i, c := range []struct {
		k  api.ClTask
		p  api.ClPlan
		ok bool
	}{
		{storm(), not(), true}, {storm(), plan(10, 12), true}, {storm(), plan(10, 16), true}, {storm(), plan(14, 16), true}, {storm(), plan(13, 15), true},
		{storm(), plan(10, 11), false}, {storm(), plan(10, 17), false}, {storm(), plan(9, 15), false}, {storm(), plan(14, 15), false}, {storm(), plan(14, 17), false}, {storm(), plan(15, 17), false},
		{storm(), plan(0, 0), false}, {storm(), plan(-1, 0), false}, {storm(), plan(-1, 15), false}, {storm(), plan(10, -1), false}, {storm(), plan(0, -1), false}, {storm(), plan(-2, -2), false},
		{storm(), plan(math.MinInt, 15), false}, {storm(), plan(math.MaxInt, math.MaxInt), false}, {storm(), plan(10, math.MaxInt), false}, {storm(), plan(10, math.MinInt), false},
		{late, not(), true}, {late, plan(100, 103), false}, {late, plan(99, 103), false},
		{zero, plan(0, 1), true}, {zero, plan(0, 2), true}, {zero, plan(1, 2), true}, {zero, plan(0, 0), false}, {zero, plan(-1, 1), false}, {zero, not(), true},
		{end, plan(199999, 200001), true}, {end, plan(200000, 200001), true}, {end, plan(200000, 200002), false}, {end, plan(200001, 200002), false},
	} {
		want := api.OK
		if !c.ok {
			want = api.ErrRange
		}
		inner, e1 := closure.Inner(c.k, 0, c.p)
		holds, e2 := closure.Holds(c.k, c.p)
		if e1 != want || e2 != want || (inner != nil) != c.ok || (holds != nil) != c.ok {
			t.Errorf("%d: %v: Inner = %v, %d; Holds = %v, %d", i, c.p, inner, e1, holds, e2)
		}
	}
}

// A history that there is not comes before a plan that is none, and that before a level that is too great.
func TestHistories(t *testing.T) {
	k := with(task(tight(), 1500, []int{0, 0, 0}), 0, 101, 0, 0)
	for i, c := range []struct {
		history int
		p       api.ClPlan
		e       api.Errno
	}{
		{-1, plan(0, 0), api.ErrNone}, {1, plan(0, 0), api.ErrNone}, {1, not(), api.ErrNone}, {math.MinInt, not(), api.ErrNone}, {math.MaxInt, plan(100, 103), api.ErrNone},
		{0, plan(0, 0), api.ErrRange}, {0, plan(100, 104), api.ErrRange}, {0, plan(100, 103), api.ErrLong}, {0, plan(101, 103), api.OK},
	} {
		if l, e := closure.Inner(k, c.history, c.p); e != c.e || (l != nil) != (e == api.OK) {
			t.Errorf("%d: Inner = %v, %d, want %d", i, l, e, c.e)
		}
		if tick, e := closure.Last(k, c.history); c.e == api.ErrNone && (tick != 0 || e != api.ErrNone) {
			t.Errorf("%d: Last = %d, %d", i, tick, e)
		}
	}
}

func TestHolds(t *testing.T) {
	up := task(pond(), 100, []int{0, 0, 200, 200, 0, 0})
	two := task(pond(), 100, []int{0, 0, 101, 0}, []int{0, 0, 0, 101}, []int{100, 100, 100, 100})
	for i, c := range []struct {
		k    api.ClTask
		p    api.ClPlan
		want []bool
	}{
		{storm(), plan(10, 15), []bool{true, true}}, {storm(), plan(11, 15), []bool{false, true}}, {storm(), not(), []bool{false, true}},
		// It opens too early, it shuts too late, or both are just in time.
		{up, plan(101, 103), []bool{false}}, {up, plan(101, 104), []bool{true}}, {up, plan(102, 104), []bool{false}}, {up, plan(100, 106), []bool{true}},
		{with(up, 1, 0, 0, 0, 0, 0, 0), plan(101, 104), []bool{false}}, {with(up, 1, 0, 0, 0, 0, 0, 0), plan(100, 104), []bool{true}},
		{two, plan(101, 103), []bool{true, false, true}}, {two, plan(102, 104), []bool{false, true, true}}, {two, plan(101, 104), []bool{true, true, true}}, {two, not(), []bool{false, false, true}},
		// Just at the limit, and a m3 above it.
		{with(up, 0, 0, 1000, 0, 0, 0, 0), plan(101, 104), []bool{true}}, {with(up, 0, 0, 1001, 0, 0, 0, 0), plan(101, 104), []bool{false}},
		{with(up, 0, 0, 999, 1, 0, 0, 0), plan(101, 104), []bool{true}}, {with(up, 0, 0, 999, 2, 0, 0, 0), plan(101, 104), []bool{false}}, {with(up, 0, 0, 999, 1, 1, 0, 0), plan(101, 104), []bool{true}},
		{with(up, 0, 0, 999, 1, 1, 0, 0), plan(101, 105), []bool{false}}, {with(up, 0, 1000, 0, 0, 0, 0, 0), plan(100, 106), []bool{true}}, {with(up, 0, 1000, 0, 0, 0, 1, 0), plan(100, 106), []bool{false}},
	} {
		if l, e := closure.Holds(c.k, c.p); !slices.Equal(l, c.want) || e != api.OK {
			t.Errorf("%d: Holds of %v = %v, %d, want %v", i, c.p, l, e, c.want)
		}
	}
}

// A level is too great from the tick on after that in which the basin is more than full, until the gates open; whatever the limit is.
func TestTooGreat(t *testing.T) {
	k := with(task(tight(), 20000, []int{0, 0, 0, 0, 0}), 0, 0, 101, 0, 0, 0)
	for i, c := range []struct {
		p  api.ClPlan
		ok bool
	}{
		{plan(100, 101), true}, {plan(100, 102), true}, {plan(100, 103), false}, {plan(100, 104), false}, {plan(100, 105), false}, {plan(101, 102), true}, {plan(101, 103), false}, {plan(102, 105), true}, {not(), true},
	} {
		holds, e := closure.Holds(k, c.p)
		inner, e1 := closure.Inner(k, 0, c.p)
		if !slices.Equal(holds, []bool{c.ok}) || e != api.OK || c.ok && !slices.Equal(inner, make([]api.Span, 5)) || !c.ok && (inner != nil || e1 != api.ErrLong) {
			t.Errorf("%d: with %v: Holds = %v, %d; Inner = %v, %d", i, c.p, holds, e, inner, e1)
		}
	}
	// Just full is not too great.
	isInner(t, with(k, 0, 0, 100, 0, 0, 0), 0, plan(100, 105), sp(0, 0), sp(0, 0), sp(1000, 1000), sp(1000, 1000), sp(1000, 1000))
}

// apart are two histories that are high one after the other, with rivers of 50 mm in a tick.
func apart() api.ClTask {
	return with(task(pond(), 100, []int{0, 0, 150, 0, 0, 0, 0}, []int{0, 0, 0, 0, 150, 0, 0}), 0, all(7, 500)...)
}

// P5.4
func TestLast(t *testing.T) {
	for i, c := range []struct {
		k       api.ClTask
		history int
		want    int
		e       api.Errno
	}{
		{storm(), 0, 10, api.OK}, {storm(), 1, 14, api.OK},
		// Alone each of them may open as soon as it is no longer high.
		{apart(), 0, 101, api.OK}, {apart(), 1, 103, api.OK},
		{changed(apart(), func(t *api.ClTask) { t.Delay = 1 }), 0, 100, api.OK}, {changed(apart(), func(t *api.ClTask) { t.Delay = 2 }), 0, 0, api.ErrDown},
		{task(pond(), 100, []int{0, 0, 101}), 0, 101, api.OK}, {task(pond(), 100, []int{101, 0, 0}), 0, 0, api.ErrDown}, {task(pond(), 100, []int{100, 101, 100}), 0, 100, api.OK},
		{task(pond(), 100, []int{0}), 0, 100, api.OK}, {with(task(pond(), 100, []int{0}), 1, 0), 0, 0, api.ErrDown},
		// The gates shut for a tick, in which there comes too much.
		{with(task(pond(), 100, []int{0, 0, 0}), 0, 0, 1001, 0), 0, 102, api.OK}, {with(task(pond(), 100, []int{0, 0, 0}), 0, 0, 0, 1001), 0, 102, api.OK},
		{with(task(pond(), 100, []int{90, 90, 101}), 0, 0, 101, 0), 0, 0, api.ErrDown}, {with(task(pond(), 100, []int{90, 90, 101}), 0, 0, 100, 0), 0, 101, api.OK}, {with(task(pond(), 100, []int{0, 90, 101}), 0, 0, 101, 0), 0, 100, api.OK},
	} {
		if tick, e := closure.Last(c.k, c.history); tick != c.want || e != c.e {
			t.Errorf("%d: Last = %d, %d, want %d, %d", i, tick, e, c.want, c.e)
		}
	}
}

// P5.5
func TestAllowed(t *testing.T) {
	for i, c := range []struct {
		k     api.ClTask
		count int
		early int
		ticks []int // at which it is allowed
	}{
		{storm(), 1, 3, []int{10, 11, 12, 13, 14}}, {storm(), 1, 2, []int{10, 11, 12, 13, 14}}, {storm(), 1, 1, []int{11, 12, 13, 14}}, {storm(), 1, 0, []int{12, 13, 14}}, {storm(), 1, 60, []int{10, 11, 12, 13, 14}},
		{storm(), 2, 60, nil}, {storm(), 8, 60, nil},
		// Histories count that are high, and not how many are at a tick; the first of all ticks counts.
		{apart(), 2, 1, []int{101, 102, 103, 104, 105, 106}}, {apart(), 3, 60, nil}, {apart(), 1, 0, []int{102, 103, 104, 105, 106}},
		{task(pond(), 100, []int{0, 0, 0, 101}, []int{0, 0, 101, 0}), 1, 1, []int{101, 102, 103}}, {task(pond(), 100, []int{0, 0, 0, 101}, []int{0, 0, 101, 101}), 2, 0, []int{102, 103}},
		{task(pond(), 100, []int{100, 100}), 1, 60, nil},
		// Closing has to begin sooner than the rules allow.
		{with(task(pond(), 100, []int{0, 0, 0, 101}), 1, 0, 0, 0, 0), 1, 0, nil}, {with(task(pond(), 100, []int{0, 0, 0, 101}), 1, 0, 0, 0, 0), 1, 1, []int{102}}, {with(task(pond(), 100, []int{101}), 1, 0), 1, 60, nil},
	} {
		var ticks []int
		for _, tick := range []int{math.MinInt, -1, 0, 9, 10, 11, 12, 13, 14, 15, 16, 99, 100, 101, 102, 103, 104, 105, 106, 107, math.MaxInt} {
			isAllowed, e := closure.Allowed(c.k, api.ClRules{Count: c.count, Early: c.early}, tick)
			if e != api.OK {
				t.Errorf("%d: error %d at %d", i, e, tick)
			}
			if isAllowed {
				ticks = append(ticks, tick)
			}
		}
		if !slices.Equal(ticks, c.ticks) {
			t.Errorf("%d: Allowed at %v, want %v", i, ticks, c.ticks)
		}
	}
}
