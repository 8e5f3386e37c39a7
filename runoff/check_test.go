package runoff_test

import (
	"math"
	"strings"
	"testing"

	"barrage/api"
	"barrage/probe"
	"barrage/runoff"
)

// checkCase changes the chapter's T, and says what Check returns then.
type checkCase struct {
	change   func(t *api.RnTask)
	part, at int
	e        api.Errno
}

func testCheck(t *testing.T, l []checkCase) {
	t.Helper()
	for i, c := range l {
		k := changed(example(), c.change)
		if part, at, e := runoff.Check(k); part != c.part || at != c.at || e != c.e {
			t.Errorf("%d: Check = %d, %d, %d, want %d, %d, %d", i, part, at, e, c.part, c.at, c.e)
		}
		if c.e != api.OK {
			testFirst(t, k, c.e)
		}
	}
}

// testFirst checks that the error of a task comes before all others, with zero values.
func testFirst(t *testing.T, k api.RnTask, e api.Errno) {
	t.Helper()
	for i, q := range []question{
		{state: api.BsState{Volume: 1000000}, before: none(), on: mill(), plan: plan(mill(), none())},
		{state: api.BsState{Volume: -1, Filled: []int{7}}, tick: -1, least: -1},
	} {
		a := ask(k, q)
		for f, got := range a.errors {
			if got != e {
				t.Errorf("%d: error %d of function %d, want %d", i, got, f, e)
			}
		}
		if !a.areZero() {
			t.Errorf("%d: a result is not zero: %v", i, a)
		}
	}
}

// lagoon is the chapter's T with two sluices and two pumps.
func lagoon() api.RnTask {
	return changed(example(), func(t *api.RnTask) {
		t.Sluices = append(t.Sluices, api.RnSluice{Name: "gap"})
		t.Pumps = append(t.Pumps, api.RnPump{Name: "screw"})
		t.On = make([]bool, 4)
	})
}

// P7.1
func TestCheckNumbers(t *testing.T) {
	k := lagoon()
	look := func() (part, at int, e api.Errno) { return runoff.Check(k) }
	field := func(name string, at *int, lo, hi int) probe.Number {
		return probe.Field(name, at, lo, hi, api.ErrRange)
	}
	probe.Ends(t, 1, 0, look, field("Crest", &k.Basin.Crest, -20000, 20000), field("Over", &k.Basin.Over, 0, 10000))
	probe.Ends(t, 1, 1, look, field("Volume", &k.State.Volume, 0, 1000000000))
	for i := range k.Outer {
		probe.Ends(t, 2, i, look, field("Outer", &k.Outer[i], -20000, 20000), field("River", &k.River[i], 0, 10000000), field("Price", &k.Prices[i], 0, 10000))
	}
	probe.Ends(t, 3, 0, look, field("Low", &k.Low, -1000, 50), field("High", &k.High, -200, 20000))
	for i := range k.Sluices {
		s := &k.Sluices[i]
		probe.Ends(t, 4, i, look, field("Width", &s.Width, 0, 10000), field("Move", &s.Move, 0, 100000))
	}
	for i := range k.Pumps {
		p := &k.Pumps[i]
		probe.Ends(t, 4, 2+i, look, field("Rate", &p.Rate, 0, 10000000), field("Base", &p.Base, 0, 100000), field("Lift", &p.Lift, 0, 100000), field("Start", &p.Start, 0, 100000))
	}
}

// A Leak of 1000 is the most with which the bay is wide enough.
func TestCheckWide(t *testing.T) {
	testCheck(t, []checkCase{
		{func(t *api.RnTask) { t.Basin.Leak = 1000 }, 0, 0, api.OK},
		{func(t *api.RnTask) { t.Basin.Leak = 1001 }, 1, 0, api.ErrArg},
		{func(t *api.RnTask) { t.Basin.Leak = 10001 }, 1, 0, api.ErrRange},
	})
}

// sluices returns so many sluices with names.
func sluices(n int) (l []api.RnSluice) {
	for i := range n {
		l = append(l, api.RnSluice{Name: string(rune('a' + i))})
	}
	return l
}

// pumps returns so many pumps with names.
func pumps(n int) (l []api.RnPump) {
	for i := range n {
		l = append(l, api.RnPump{Name: string(rune('p' + i))})
	}
	return l
}

// ticks gives a task so many ticks.
func ticks(t *api.RnTask, n int) {
	t.Outer, t.River, t.Prices = make([]int, n), make([]int, n), make([]int, n)
}

// How much there can be of all, and which names there can be.
func TestCheckRight(t *testing.T) {
	testCheck(t, []checkCase{
		{func(t *api.RnTask) {}, 0, 0, api.OK},
		{func(t *api.RnTask) { *t = lagoon() }, 0, 0, api.OK},
		{func(t *api.RnTask) { ticks(t, 0) }, 0, 0, api.OK},
		{func(t *api.RnTask) { t.Outer, t.River, t.Prices = nil, []int{}, nil }, 0, 0, api.OK},
		{func(t *api.RnTask) { ticks(t, 6) }, 0, 0, api.OK},
		{func(t *api.RnTask) { t.Sluices, t.On = nil, t.On[:1] }, 0, 0, api.OK},
		{func(t *api.RnTask) { t.Pumps, t.On = nil, t.On[:1] }, 0, 0, api.OK},
		{func(t *api.RnTask) { t.Sluices, t.Pumps, t.On = nil, nil, nil }, 0, 0, api.OK},
		{func(t *api.RnTask) { t.On = both() }, 0, 0, api.OK},
		{func(t *api.RnTask) { t.Low, t.High = 50, 50 }, 0, 0, api.OK},
		{func(t *api.RnTask) { t.Low, t.High = 20000, 20000 }, 0, 0, api.OK},
		{func(t *api.RnTask) { t.Low, t.High = -1000, -1000 }, 0, 0, api.OK},
		// The level at first may be anywhere.
		{func(t *api.RnTask) { t.State.Volume = 0 }, 0, 0, api.OK},
		{func(t *api.RnTask) {
			t.Basin.Polders, t.State.Filled = []api.BsPolder{{Name: "lock", Room: 5}}, []int{5}
		}, 0, 0, api.OK},
		{func(t *api.RnTask) { t.Pumps[0].Name = "z" + strings.Repeat("-9", 11) + "a" }, 0, 0, api.OK},
	})
}

func TestCheckParts(t *testing.T) {
	testCheck(t, []checkCase{
		{func(t *api.RnTask) { t.Basin.Rows = nil }, 1, 0, api.ErrLong},
		{func(t *api.RnTask) { t.Basin.Rows[2].Volume = 1000000 }, 1, 0, api.ErrArg},
		{func(t *api.RnTask) { t.Basin.Over = -1 }, 1, 0, api.ErrRange},
		{func(t *api.RnTask) { t.Basin.Polders = []api.BsPolder{{Name: "A"}} }, 1, 0, api.ErrForm},
		{func(t *api.RnTask) { t.Basin.Polders = all(2, api.BsPolder{Name: "a"}) }, 1, 0, api.ErrTwice},
		{func(t *api.RnTask) { t.State.Filled = []int{0} }, 1, 1, api.ErrArg},
		{func(t *api.RnTask) { t.State.Volume = -1 }, 1, 1, api.ErrRange},
		{func(t *api.RnTask) {
			t.Basin.Polders, t.State.Filled = []api.BsPolder{{Name: "a", Room: 5}}, []int{6}
		}, 1, 1, api.ErrRange},
		{func(t *api.RnTask) { ticks(t, 7) }, 2, 0, api.ErrLong},
		{func(t *api.RnTask) { t.Outer = nil }, 2, 0, api.ErrArg},
		{func(t *api.RnTask) { t.River = t.River[:1] }, 2, 0, api.ErrArg},
		{func(t *api.RnTask) { t.River = append(t.River, 0) }, 2, 0, api.ErrArg},
		{func(t *api.RnTask) { t.Prices = nil }, 2, 0, api.ErrArg},
		{func(t *api.RnTask) { t.Prices = make([]int, 7) }, 2, 0, api.ErrArg},
		{func(t *api.RnTask) { t.Outer[1] = 20001 }, 2, 1, api.ErrRange},
		{func(t *api.RnTask) { t.Low = -1001 }, 3, 0, api.ErrRange},
		{func(t *api.RnTask) { t.Low, t.High = 20001, 20001 }, 3, 0, api.ErrRange},
		{func(t *api.RnTask) { t.Low, t.High = 51, 50 }, 3, 0, api.ErrRange},
		{func(t *api.RnTask) { t.Sluices, t.On = sluices(3), make([]bool, 4) }, 4, 0, api.ErrLong},
		{func(t *api.RnTask) { t.Pumps, t.On = pumps(3), make([]bool, 4) }, 4, 0, api.ErrLong},
		{func(t *api.RnTask) { t.Sluices, t.Pumps, t.On = sluices(3), nil, make([]bool, 3) }, 4, 0, api.ErrLong},
		{func(t *api.RnTask) { t.Sluices[0].Name = "" }, 4, 0, api.ErrForm},
		{func(t *api.RnTask) { t.Pumps[0].Name = "the mill" }, 4, 1, api.ErrForm},
		{func(t *api.RnTask) { t.Pumps[0].Name = strings.Repeat("a", 25) }, 4, 1, api.ErrForm},
		{func(t *api.RnTask) { *t = lagoon(); t.Sluices[1].Name = "lock" }, 4, 1, api.ErrTwice},
		{func(t *api.RnTask) { *t = lagoon(); t.Pumps[1].Name = "mill" }, 4, 3, api.ErrTwice},
		// A pump and a sluice must not have the same name.
		{func(t *api.RnTask) { t.Pumps[0].Name = "lock" }, 4, 1, api.ErrTwice},
		{func(t *api.RnTask) { *t = lagoon(); t.Pumps[1].Name = "gap" }, 4, 3, api.ErrTwice},
		{func(t *api.RnTask) { t.Sluices[0].Move = -1 }, 4, 0, api.ErrRange},
		{func(t *api.RnTask) { t.Pumps[0].Lift = 100001 }, 4, 1, api.ErrRange},
		{func(t *api.RnTask) { t.On = nil }, 5, 0, api.ErrArg},
		{func(t *api.RnTask) { t.On = t.On[:1] }, 5, 0, api.ErrArg},
		{func(t *api.RnTask) { t.On = make([]bool, 3) }, 5, 0, api.ErrArg},
		{func(t *api.RnTask) { t.Sluices, t.Pumps = nil, nil }, 5, 0, api.ErrArg},
	})
}

// All of one part comes before the next one; the first element with an error decides, and of its errors the one that is named first.
func TestCheckOrder(t *testing.T) {
	testCheck(t, []checkCase{
		{func(t *api.RnTask) { t.Basin.Leak, t.State.Volume = -1, -1 }, 1, 0, api.ErrRange},
		{func(t *api.RnTask) { t.State.Volume = -1; ticks(t, 7) }, 1, 1, api.ErrRange},
		{func(t *api.RnTask) { ticks(t, 7); t.River, t.Outer[0] = nil, 20001 }, 2, 0, api.ErrLong},
		{func(t *api.RnTask) { t.River, t.Outer[1] = nil, 20001 }, 2, 0, api.ErrArg},
		{func(t *api.RnTask) { t.River[0], t.Outer[1] = -1, 20001 }, 2, 0, api.ErrRange},
		{func(t *api.RnTask) { t.Prices[0], t.River[1] = -1, -1 }, 2, 0, api.ErrRange},
		{func(t *api.RnTask) { t.Prices[1], t.Low = -1, -1001 }, 2, 1, api.ErrRange},
		{func(t *api.RnTask) { t.High, t.Sluices = -201, sluices(3) }, 3, 0, api.ErrRange},
		{func(t *api.RnTask) { t.Low, t.Sluices[0].Name = -1001, "" }, 3, 0, api.ErrRange},
		{func(t *api.RnTask) { t.Pumps, t.Sluices[0].Name = pumps(3), "" }, 4, 0, api.ErrLong},
		{func(t *api.RnTask) { t.Sluices[0].Width, t.Pumps[0].Name = -1, "" }, 4, 0, api.ErrRange},
		{func(t *api.RnTask) { t.Pumps[0].Rate, t.Pumps[0].Name = -1, "lock" }, 4, 1, api.ErrTwice},
		{func(t *api.RnTask) { t.Pumps[0].Rate, t.Pumps[0].Name = -1, "Lock" }, 4, 1, api.ErrForm},
		{func(t *api.RnTask) { t.Pumps[0].Rate, t.On = -1, nil }, 4, 1, api.ErrRange},
		{func(t *api.RnTask) { t.Pumps, t.On = pumps(3), nil }, 4, 0, api.ErrLong},
	})
}

// badState is a state that the bay cannot have, and its error.
type badState struct {
	s api.BsState
	e api.Errno
}

func badStates() []badState {
	return []badState{
		{api.BsState{Volume: 1000000, Filled: []int{0}}, api.ErrArg}, {api.BsState{Volume: -1, Filled: []int{0}}, api.ErrArg},
		{api.BsState{Volume: -1}, api.ErrRange}, {api.BsState{Volume: 1000000001}, api.ErrRange}, {api.BsState{Volume: math.MinInt}, api.ErrRange}, {api.BsState{Volume: math.MaxInt}, api.ErrRange},
	}
}

// P7.3, P7.4: the order of errors.
func TestUseErrors(t *testing.T) {
	right := api.BsState{Volume: 1000000}
	for _, bad := range badStates() {
		testUse(t, question{state: bad.s, on: none(), before: none()}, bad.e, bad.e)
		testUse(t, question{state: bad.s, tick: 2, least: -1}, bad.e, bad.e)
	}
	for _, tick := range []int{-1, 2, math.MinInt, math.MaxInt} {
		testUse(t, question{state: right, tick: tick, before: none(), on: none()}, api.ErrNone, api.ErrNone)
		testUse(t, question{state: right, tick: tick, least: -1}, api.ErrNone, api.ErrNone)
	}
	for _, l := range [][]bool{nil, {}, {false}, {true, false, false}} {
		testUse(t, question{state: right, before: l, on: none(), least: -1}, api.ErrArg, api.ErrArg)
		testUse(t, question{state: right, before: none(), on: l, least: -1}, api.ErrArg, api.ErrRange)
		// Before RnErrHead.
		testUse(t, question{state: right, tick: 1, before: l, on: lock(), least: 100000}, api.ErrArg, api.ErrArg)
	}
	for _, least := range []int{-1, 10000001, math.MinInt, math.MaxInt} {
		testUse(t, question{state: right, before: none(), on: none(), least: least}, api.OK, api.ErrRange)
	}
	testUse(t, question{state: right, tick: 1, before: none(), on: lock(), least: 10000000}, api.RnErrHead, api.ErrDown)
	testUse(t, question{state: right, tick: 1, before: lock(), on: both()}, api.RnErrHead, api.OK)
	// Without ticks there is no number of one.
	if _, _, e := runoff.Use(changed(example(), func(t *api.RnTask) { ticks(t, 0) }), right, 0, none(), none()); e != api.ErrNone {
		t.Errorf("Use without ticks: %d", e)
	}
}

// testUse checks the errors of Use and of Cheapest, with zero values.
func testUse(t *testing.T, q question, use, cheapest api.Errno) {
	t.Helper()
	a := ask(example(), q)
	if a.errors[1] != use || use != api.OK && (a.out != 0 || a.energy != 0) {
		t.Errorf("%v: Use = %d, %d, %d, want %d", q, a.out, a.energy, a.errors[1], use)
	}
	if a.errors[2] != cheapest || cheapest != api.OK && (a.cheapest != nil || a.takes != 0) {
		t.Errorf("%v: Cheapest = %v, %d, %d, want %d", q, a.cheapest, a.takes, a.errors[2], cheapest)
	}
}

// P7.5, P7.7: what is no plan.
func TestPlansThatAreNone(t *testing.T) {
	for i, l := range [][][]bool{
		nil, {}, plan(none()), plan(none(), none(), none()), plan(nil, none()), plan(none(), nil), plan(none(), []bool{true}), plan(none(), make([]bool, 3)), plan([]bool{}, []bool{}),
		// Before a fault.
		plan(none(), lock()[:1]), plan(none(), none(), lock()),
	} {
		a := ask(example(), question{plan: l})
		if a.errors[3] != api.ErrArg || a.errors[4] != api.ErrArg || a.errors[6] != api.ErrArg || a.done != nil || a.fault != api.OK || a.cost != 0 || a.least != nil {
			t.Errorf("%d: %v", i, a)
		}
	}
}
