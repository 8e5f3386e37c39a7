package closure_test

import (
	"math"
	"slices"
	"testing"

	"barrage/api"
	"barrage/closure"
	"barrage/probe"
)

// low is storm with a polder, and as much water in it as there is room for.
func low() api.ClTask {
	return changed(storm(), func(t *api.ClTask) {
		t.Basin.Polders = []api.BsPolder{{Name: "low", Sill: 200, Take: 300, Room: 50000}, {Name: "high", Sill: 1000, Take: 200, Room: 0}}
		t.Filled = []int{50000, 0}
	})
}

// checkCase changes low, and says what Check returns then.
type checkCase struct {
	change   func(t *api.ClTask)
	part, at int
	e        api.Errno
}

func testCheck(t *testing.T, l []checkCase) {
	t.Helper()
	for i, c := range l {
		k := changed(low(), c.change)
		if part, at, e := closure.Check(k); part != c.part || at != c.at || e != c.e {
			t.Errorf("%d: Check = %d, %d, %d, want %d, %d, %d", i, part, at, e, c.part, c.at, c.e)
		}
		if c.e != api.OK {
			testFirst(t, k, c.e)
		}
	}
}

// testFirst checks that the error of a task comes before all others, with zero values.
func testFirst(t *testing.T, k api.ClTask, e api.Errno) {
	t.Helper()
	wild := []answers{
		ask(k, api.ClRules{}, -1, -1, plan(0, 0), api.ClDecision{}),
		ask(k, rules(), 10, 0, not(), decision()),
	}
	for i, a := range wild {
		for f, got := range a.errors {
			if got != e {
				t.Errorf("%d: error %d of function %d, want %d", i, got, f, e)
			}
		}
		if !a.areZero() {
			t.Errorf("%d: a result is not zero: %v", i, a)
		}
	}
}

// P5.1
func TestCheckNumbers(t *testing.T) {
	k := low()
	look := func() (part, at int, e api.Errno) { return closure.Check(k) }
	e := api.ErrRange
	for i := range k.Histories {
		for j := range k.Histories[i].Values {
			probe.Ends(t, 2, i, look, probe.Field("value", &k.Histories[i].Values[j], -20000, 20000, e))
		}
	}
	for i := range k.River {
		probe.Ends(t, 3, 0, look, probe.Field("River", &k.River[i], 0, 10000000, e))
	}
	probe.Ends(t, 4, 0, look,
		probe.Field("Filled", &k.Filled[0], 0, 50000, e), probe.Field("Filled", &k.Filled[1], 0, 0, e),
		probe.Field("Out", &k.Out, 0, 10000000, e), probe.Field("Limit", &k.Limit, -1000, 20000, e), probe.Field("Delay", &k.Delay, 0, 30, e),
	)
	k.Histories = k.Histories[:1]
	probe.Ends(t, 2, 0, look, probe.Field("From", &k.Histories[0].From, 0, 200000-5, e))
	k.Histories[0].Values, k.River = []int{7}, []int{8}
	probe.Ends(t, 2, 0, look, probe.Field("From", &k.Histories[0].From, 0, 200000, e))
}

// long changes a task so that there are so many histories of so many ticks.
func long(histories, ticks int) func(t *api.ClTask) {
	return func(t *api.ClTask) {
		t.Histories = all(histories, series(10, make([]int, ticks)...))
		t.River = make([]int, ticks)
	}
}

func TestCheckRight(t *testing.T) {
	testCheck(t, []checkCase{
		{func(t *api.ClTask) {}, 0, 0, api.OK},
		{long(1, 1), 0, 0, api.OK},
		{long(8, 60), 0, 0, api.OK},
		{func(t *api.ClTask) { *t = storm() }, 0, 0, api.OK},
		{func(t *api.ClTask) { *t = storm(); t.Filled = []int{} }, 0, 0, api.OK},
		{func(t *api.ClTask) { t.Histories[1].Values = t.Histories[0].Values }, 0, 0, api.OK},
		{func(t *api.ClTask) { t.Histories[0].From, t.Histories[1].From = 0, 0 }, 0, 0, api.OK},
	})
}

func TestCheckParts(t *testing.T) {
	testCheck(t, []checkCase{
		{func(t *api.ClTask) { t.Basin = api.BsBasin{} }, 1, 0, api.ErrLong},
		{func(t *api.ClTask) { t.Basin.Rows[2].Level = 0 }, 1, 0, api.ErrArg},
		{func(t *api.ClTask) { t.Basin.Rows[2].Level = 20001 }, 1, 0, api.ErrRange},
		{func(t *api.ClTask) { t.Basin.Polders[1].Name = "low" }, 1, 0, api.ErrTwice},
		{func(t *api.ClTask) { t.Basin.Polders[1].Name = "" }, 1, 0, api.ErrForm},
		{func(t *api.ClTask) { t.Basin.Leak = 1001 }, 1, 0, api.ErrArg},
		{func(t *api.ClTask) { t.Histories = nil }, 2, 0, api.ErrLong},
		{long(9, 6), 2, 0, api.ErrLong},
		{long(2, 0), 2, 0, api.ErrLong},
		{long(2, 61), 2, 0, api.ErrLong},
		{func(t *api.ClTask) { t.Histories[1].From = 11 }, 2, 1, api.ErrArg},
		{func(t *api.ClTask) { t.Histories[1].From = 9 }, 2, 1, api.ErrArg},
		{func(t *api.ClTask) { t.Histories[1].Values = make([]int, 5) }, 2, 1, api.ErrArg},
		{func(t *api.ClTask) { t.Histories[1].Values = make([]int, 7) }, 2, 1, api.ErrArg},
		{func(t *api.ClTask) { t.Histories[1].Values = make([]int, 61) }, 2, 1, api.ErrArg},
		{func(t *api.ClTask) { t.Histories[1].Values = nil }, 2, 1, api.ErrArg},
		{func(t *api.ClTask) { t.Histories[1].Values[5] = 20001 }, 2, 1, api.ErrRange},
		{func(t *api.ClTask) { t.Histories[0].From, t.Histories[1].From = -1, -1 }, 2, 0, api.ErrRange},
		{func(t *api.ClTask) { t.Histories[0].From, t.Histories[1].From = 199996, 199996 }, 2, 0, api.ErrRange},
		{func(t *api.ClTask) { t.Histories[0].From, t.Histories[1].From = math.MaxInt, math.MaxInt }, 2, 0, api.ErrRange},
		{func(t *api.ClTask) { t.River = nil }, 3, 0, api.ErrArg},
		{func(t *api.ClTask) { t.River = make([]int, 5) }, 3, 0, api.ErrArg},
		{func(t *api.ClTask) { t.River = make([]int, 7) }, 3, 0, api.ErrArg},
		{func(t *api.ClTask) { t.River[5] = -1 }, 3, 0, api.ErrRange},
		{func(t *api.ClTask) { t.Filled = nil }, 4, 0, api.ErrArg},
		{func(t *api.ClTask) { t.Filled = []int{0} }, 4, 0, api.ErrArg},
		{func(t *api.ClTask) { t.Filled = []int{0, 0, 0} }, 4, 0, api.ErrArg},
		{func(t *api.ClTask) { t.Filled[1] = 1 }, 4, 0, api.ErrRange},
		{func(t *api.ClTask) { t.Limit = -1001 }, 4, 0, api.ErrRange},
		{func(t *api.ClTask) { t.Delay = 31 }, 4, 0, api.ErrRange},
	})
}

// All of one part comes before the next one; the first history with an error decides, and of its errors the one that is named first.
func TestCheckOrder(t *testing.T) {
	testCheck(t, []checkCase{
		{func(t *api.ClTask) { t.Basin.Leak, t.Histories = -1, nil }, 1, 0, api.ErrRange},
		{func(t *api.ClTask) { t.Basin.Rows = nil; t.Limit, t.Filled = 90000, nil }, 1, 0, api.ErrLong},
		{func(t *api.ClTask) { long(9, 6)(t); t.Histories[0].From = -1 }, 2, 0, api.ErrLong},
		{func(t *api.ClTask) { t.Histories[0].Values, t.Histories[1].Values = nil, make([]int, 6) }, 2, 0, api.ErrLong},
		{func(t *api.ClTask) { t.Histories[1] = series(-1, 90000) }, 2, 1, api.ErrArg},
		{func(t *api.ClTask) { t.Histories[0].Values[3], t.Histories[1].From = 90000, 11 }, 2, 0, api.ErrRange},
		{func(t *api.ClTask) {
			t.Histories = append(t.Histories, t.Histories[0])
			t.Histories[1].Values[0] = 90000
			t.Histories[2].From = 0
		}, 2, 1, api.ErrRange},
		{func(t *api.ClTask) { t.Histories[1].Values[3], t.River = 90000, nil }, 2, 1, api.ErrRange},
		{func(t *api.ClTask) { t.River = []int{-1} }, 3, 0, api.ErrArg},
		{func(t *api.ClTask) { t.River[0], t.Filled = -1, nil }, 3, 0, api.ErrRange},
		{func(t *api.ClTask) { t.Filled, t.Delay = []int{-1}, -1 }, 4, 0, api.ErrArg},
	})
}

// Rules with an error come behind the error of Check, and before all others.
func TestRules(t *testing.T) {
	r := rules()
	d := decision()
	d.Plan.Open = 99
	look := func() (part, at int, e api.Errno) {
		a := ask(storm(), r, 10, 0, plan(10, 15), d)
		got := [4]api.Errno{a.errors[6], a.errors[7], a.errors[8], a.errors[9]}
		if got[0] == api.OK {
			if slices.Contains(got[:], api.ErrRange) {
				t.Errorf("%v: %v", r, got)
			}
			return 0, 0, api.OK
		}
		if got != [4]api.Errno{got[0], got[0], got[0], got[0]} || a.allowed || !sameDecision(a.decision, api.ClDecision{}) || a.refused != 0 || a.best != plan(0, 0) || a.not != nil {
			t.Errorf("%v: %v", r, a)
		}
		return 0, 0, got[0]
	}
	probe.Ends(t, 0, 0, look, probe.Field("Count", &r.Count, 1, 8, api.ErrRange), probe.Field("Early", &r.Early, 0, 60, api.ErrRange))
	// The functions without rules do not look at them.
	k := changed(storm(), func(t *api.ClTask) { t.Delay = 30 })
	if a := ask(k, api.ClRules{}, 10, 0, not(), d); a.errors != [10]api.Errno{0, 0, api.ErrRange, 0, 0, api.ErrDown, api.ErrRange, api.ErrRange, api.ErrRange, api.ErrRange} {
		t.Errorf("%v", a.errors)
	}
}
