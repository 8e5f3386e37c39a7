package gate_test

import (
	"math"
	"slices"
	"strings"
	"testing"

	"barrage/api"
	"barrage/gate"
	"barrage/probe"
)

// P3.1
func TestCheckNumbers(t *testing.T) {
	g := east()
	look := func() (part, at int, e api.Errno) { return gate.Check(g) }
	e := api.ErrRange
	probe.Ends(t, 3, 0, look,
		probe.Field("Open", &g.Open, -20000, 20000, e), probe.Field("Shut", &g.Shut, -20000, 20000, e), probe.Field("Height", &g.Height, 1, 30000, e),
		probe.Field("Float", &g.Float, 0, 10000, e), probe.Field("Slide", &g.Slide, 0, 10000, e), probe.Field("Push", &g.Push, -10000, 10000, e),
		probe.Field("Seal", &g.Seal, 0, 200000, e), probe.Field("Drive", &g.Drive, 0, 200000, e), probe.Field("Brake", &g.Brake, 0, 200000, e),
		probe.Field("Speed", &g.Speed, 1, 100, e), probe.Field("Gravity", &g.Gravity, 1, 100, e),
		probe.Field("Use", &g.Use, 0, 100000, e), probe.Field("Pump", &g.Pump, 0, 100000, e), probe.Field("Capacity", &g.Capacity, 0, 100000, e),
		probe.Field("Slack", &g.Slack, 0, 499, e),
	)
	probe.Ends(t, 4, 1, look, probe.Field("Tol", &g.Sensors[1].Tol, 0, 5000, e), probe.Field("At of an encoder", &g.Sensors[1].At, 0, 0, api.ErrArg))
	probe.Ends(t, 4, 2, look, probe.Field("Tol", &g.Sensors[2].Tol, 0, 5000, e), probe.Field("At of a switch", &g.Sensors[2].At, 0, 5000, e))
	probe.Ends(t, 4, 0, look, probe.Field("Wrong", &g.Wrong, 0, 3, e))
	g.Slack = 0
	probe.Ends(t, 1, 0, look, probe.Field("Travel", &g.Travel, 1, 5000, e))
	// Twice Slack is below Travel.
	for travel, most := range map[int]int{1: 0, 2: 0, 3: 1, 4: 1, 5: 2, 5000: 2499} {
		g.Travel = travel
		probe.Ends(t, 3, 0, look, probe.Field("Slack", &g.Slack, 0, most, e))
	}
}

// gateCase changes east, and says what Check returns then.
type gateCase struct {
	change   func(g *api.GtGate)
	part, at int
	e        api.Errno
}

func testCheck(t *testing.T, l []gateCase) {
	t.Helper()
	for i, c := range l {
		g := east()
		c.change(&g)
		if part, at, e := gate.Check(g); part != c.part || at != c.at || e != c.e {
			t.Errorf("%d: Check = %d, %d, %d, want %d, %d, %d", i, part, at, e, c.part, c.at, c.e)
		}
		if c.e != api.OK {
			testGateFirst(t, g, c.e)
		}
	}
}

// testGateFirst checks that the error of a gate comes before all others, with zero values.
func testGateFirst(t *testing.T, g api.GtGate, e api.Errno) {
	t.Helper()
	wild, odd := api.GtState{Pos: -1}, api.GtStep{Order: 9, Outer: math.MaxInt}
	net, rub, e1 := gate.Force(g, -1, math.MaxInt, 0)
	next, moved, e2 := gate.Step(g, wild, odd)
	states, e3 := gate.Run(g, wild, make([]api.GtStep, api.MaxGtSteps+1))
	time, e4 := gate.Time(g, wild, math.MaxInt, 0, true)
	falls, e5 := gate.Falls(g, math.MaxInt, 0)
	where, e6 := gate.Where(g, make([]int, 9))
	end, e7 := gate.Sure(g, make([]int, 9))
	bolted, e8 := gate.Bolt(g, wild, true, make([]int, 9))
	loose, e9 := gate.Bolt(g, wild, false, nil)
	for i, got := range []api.Errno{e1, e2, e3, e4, e5, e6, e7, e8, e9} {
		if got != e {
			t.Errorf("%v: error %d of call %d, want %d", g, got, i+1, e)
		}
	}
	zero := api.GtState{}
	if net != 0 || rub != 0 || next != zero || moved != (api.GtMoved{}) || states != nil || time != 0 || falls != 0 || where != sp(0, 0) || end != 0 || bolted != zero || loose != zero {
		t.Errorf("%v: a result is not zero", g)
	}
	l := pair()
	l.Gates[1] = g
	if part, at, got := gate.CheckSet(l); part != 1 || at != 1 || got != e {
		t.Errorf("%v: CheckSet = %d, %d, %d", g, part, at, got)
	}
}

// own changes the kind and the own forces of a gate.
func own(kind int, forces ...int) func(g *api.GtGate) {
	return func(g *api.GtGate) { g.Kind, g.Own = kind, forces }
}

func TestCheckRight(t *testing.T) {
	testCheck(t, []gateCase{
		{func(g *api.GtGate) {}, 0, 0, api.OK},
		{func(g *api.GtGate) { g.Name = strings.Repeat("z", 24) }, 0, 0, api.OK},
		{own(api.GtSector, 0, 0), 0, 0, api.OK},
		{own(api.GtLift, 0, 200000), 0, 0, api.OK},
		{own(api.GtFlap, 0, -200000), 0, 0, api.OK},
		{own(api.GtSector, make([]int, 16)...), 0, 0, api.OK},
		{func(g *api.GtGate) { g.Sensors, g.Wrong = nil, 0 }, 0, 0, api.OK},
		{func(g *api.GtGate) { g.Sensors, g.Wrong = slices.Repeat([]api.GtSensor{{Kind: api.GtSwitch}}, 6), 6 }, 0, 0, api.OK},
	})
}

func TestCheckParts(t *testing.T) {
	testCheck(t, []gateCase{
		{func(g *api.GtGate) { g.Name = "" }, 1, 0, api.ErrForm},
		{func(g *api.GtGate) { g.Name = "East" }, 1, 0, api.ErrForm},
		{func(g *api.GtGate) { g.Name = strings.Repeat("z", 25) }, 1, 0, api.ErrForm},
		{func(g *api.GtGate) { g.Kind = 0 }, 1, 0, api.ErrArg},
		{func(g *api.GtGate) { g.Kind = 4 }, 1, 0, api.ErrArg},
		{func(g *api.GtGate) { g.Kind = math.MinInt }, 1, 0, api.ErrArg},
		{func(g *api.GtGate) { g.Kind = math.MaxInt }, 1, 0, api.ErrArg},
		{own(api.GtLift), 2, 0, api.ErrLong},
		{own(api.GtLift, 600), 2, 0, api.ErrLong},
		{own(api.GtLift, make([]int, 17)...), 2, 0, api.ErrLong},
		{own(api.GtLift, 0, 0, 200001), 2, 2, api.ErrRange},
		{own(api.GtFlap, 0, -200001, 0), 2, 1, api.ErrRange},
		{own(api.GtSector, 0, math.MinInt), 2, 1, api.ErrRange},
		{own(api.GtSector, 0, 1), 2, 1, api.ErrArg},
		{own(api.GtSector, -1, 0), 2, 0, api.ErrArg},
		{own(api.GtLift, 600, 400, -1), 2, 2, api.ErrArg},
		{own(api.GtFlap, -600, 1), 2, 1, api.ErrArg},
		{func(g *api.GtGate) { g.Sensors = make([]api.GtSensor, 7) }, 4, 0, api.ErrLong},
		{func(g *api.GtGate) { g.Sensors[2].Kind = 3 }, 4, 2, api.ErrArg},
		{func(g *api.GtGate) { g.Sensors[2].Kind = 0 }, 4, 2, api.ErrArg},
		{func(g *api.GtGate) { g.Sensors[2].Kind = math.MinInt }, 4, 2, api.ErrArg},
		{func(g *api.GtGate) { g.Sensors[2].Kind = api.GtEncoder }, 4, 2, api.ErrArg},
		{func(g *api.GtGate) { g.Sensors = nil }, 4, 0, api.ErrRange},
	})
}

// All of one part comes before the next one; the first element with an error decides, and of its errors the one that is named first.
func TestCheckOrder(t *testing.T) {
	testCheck(t, []gateCase{
		{func(g *api.GtGate) { g.Name, g.Kind, g.Travel = "", 0, 0 }, 1, 0, api.ErrForm},
		{func(g *api.GtGate) { g.Kind, g.Travel = 0, 0 }, 1, 0, api.ErrArg},
		{func(g *api.GtGate) { g.Travel, g.Own = 0, nil }, 1, 0, api.ErrRange},
		{func(g *api.GtGate) { g.Own, g.Height = make([]int, 17), 0; g.Own[3] = -1 }, 2, 0, api.ErrLong},
		{own(api.GtLift, 0, -1, 200001), 2, 1, api.ErrArg},
		{own(api.GtLift, 0, 200001, -1), 2, 1, api.ErrRange},
		{own(api.GtLift, 0, -200001), 2, 1, api.ErrRange},
		{func(g *api.GtGate) { g.Own[1], g.Height = -1, 0 }, 2, 1, api.ErrArg},
		{func(g *api.GtGate) { g.Slack, g.Sensors = 500, make([]api.GtSensor, 7) }, 3, 0, api.ErrRange},
		{func(g *api.GtGate) { g.Wrong, g.Sensors = -1, make([]api.GtSensor, 7) }, 4, 0, api.ErrLong},
		{func(g *api.GtGate) { g.Sensors[0].At, g.Sensors[1].Tol = 1, -1 }, 4, 0, api.ErrArg},
		{func(g *api.GtGate) { g.Sensors[0].Tol, g.Sensors[1].At = -1, 1 }, 4, 0, api.ErrRange},
		{func(g *api.GtGate) { g.Sensors[1] = api.GtSensor{Kind: 3, At: -1, Tol: -1} }, 4, 1, api.ErrArg},
		{func(g *api.GtGate) { g.Sensors[1] = api.GtSensor{Kind: api.GtEncoder, At: -1, Tol: -1} }, 4, 1, api.ErrArg},
		{func(g *api.GtGate) { g.Wrong, g.Sensors[2].Tol = 4, 5001 }, 4, 2, api.ErrRange},
	})
}

// setCase changes pair, and says what CheckSet returns then.
type setCase struct {
	change   func(l *api.GtSet)
	part, at int
	e        api.Errno
}

func testCheckSet(t *testing.T, l []setCase) {
	t.Helper()
	for i, c := range l {
		set := pair()
		c.change(&set)
		if part, at, e := gate.CheckSet(set); part != c.part || at != c.at || e != c.e {
			t.Errorf("%d: CheckSet = %d, %d, %d, want %d, %d, %d", i, part, at, e, c.part, c.at, c.e)
		}
		if c.e == api.OK {
			continue
		}
		states, moved, e1 := gate.Move(set, nil, make([]api.GtStep, 9), nil)
		ticks, e2 := gate.Delay(set, make([]api.GtState, 9), math.MaxInt, 0, true)
		if e1 != c.e || e2 != c.e || states != nil || moved != nil || ticks != 0 {
			t.Errorf("%d: Move = %v, %v, %d; Delay = %d, %d", i, states, moved, e1, ticks, e2)
		}
	}
}

// gates returns n gates without an error.
func gates(n int) (l []api.GtGate) {
	for i := range n {
		l = append(l, named(plain(), string(rune('a'+i))))
	}
	return l
}

func ruled(r ...api.GtRule) func(l *api.GtSet) {
	return func(l *api.GtSet) { l.Rules = r }
}

// P3.7
func TestCheckSet(t *testing.T) {
	fine, wild := api.GtRule{Gate: 1, Lo: 3, Hi: 3}, api.GtRule{Gate: 2, Other: 2, Lo: -1, Hi: -1}
	testCheckSet(t, []setCase{
		{func(l *api.GtSet) {}, 0, 0, api.OK},
		{func(l *api.GtSet) { l.Gates, l.Rules = gates(1), nil }, 0, 0, api.OK},
		{func(l *api.GtSet) { l.Gates, l.Rules = gates(6), slices.Repeat([]api.GtRule{fine}, 12) }, 0, 0, api.OK},
		{func(l *api.GtSet) { l.Gates = nil }, 1, 0, api.ErrLong},
		{func(l *api.GtSet) { l.Gates = gates(7) }, 1, 0, api.ErrLong},
		{func(l *api.GtSet) { l.Gates[1].Name = "east" }, 1, 1, api.ErrTwice},
		{func(l *api.GtSet) { l.Gates = gates(6); l.Gates[5].Name = "c" }, 1, 5, api.ErrTwice},
		{func(l *api.GtSet) { l.Rules = slices.Repeat([]api.GtRule{fine}, 13) }, 2, 0, api.ErrLong},
		{ruled(fine, api.GtRule{Gate: 2}), 2, 1, api.ErrNone},
		{ruled(fine, api.GtRule{Gate: -1}), 2, 1, api.ErrNone},
		{ruled(api.GtRule{Gate: 1, Other: 2}), 2, 0, api.ErrNone},
		{ruled(api.GtRule{Gate: 1, Other: -1}), 2, 0, api.ErrNone},
		{ruled(api.GtRule{Gate: math.MaxInt, Other: math.MinInt}), 2, 0, api.ErrNone},
		{ruled(fine, fine, api.GtRule{Gate: 1, Other: 1}), 2, 2, api.ErrArg},
		{ruled(api.GtRule{}), 2, 0, api.ErrArg},
		// The order of parts, of elements, and of the errors of one.
		{func(l *api.GtSet) { l.Gates = make([]api.GtGate, 7) }, 1, 0, api.ErrLong},
		{func(l *api.GtSet) { l.Gates[0].Travel, l.Gates[1].Name = 0, "" }, 1, 0, api.ErrRange},
		{func(l *api.GtSet) { l.Gates[1].Name, l.Gates[1].Wrong = "east", -1 }, 1, 1, api.ErrRange},
		{func(l *api.GtSet) { l.Gates = gates(3); l.Gates[1].Name, l.Gates[2].Name = "a", "" }, 1, 1, api.ErrTwice},
		{func(l *api.GtSet) { l.Gates[1].Name, l.Rules = "east", slices.Repeat([]api.GtRule{wild}, 13) }, 1, 1, api.ErrTwice},
		{func(l *api.GtSet) { l.Rules = slices.Repeat([]api.GtRule{wild}, 13) }, 2, 0, api.ErrLong},
		{ruled(fine, api.GtRule{Gate: 1, Lo: 2, Hi: 1}, wild), 2, 1, api.ErrRange},
		{ruled(fine, wild), 2, 1, api.ErrNone},
		{ruled(api.GtRule{Gate: 1, Other: 1, Lo: -1}), 2, 0, api.ErrArg},
	})
}

func TestCheckSetNumbers(t *testing.T) {
	l := pair()
	l.Rules = append(l.Rules, api.GtRule{Gate: 0, Other: 1, Lo: 40, Hi: 60})
	r := &l.Rules[1]
	probe.Ends(t, 2, 1, func() (part, at int, e api.Errno) { return gate.CheckSet(l) },
		probe.Field("Lo", &r.Lo, 0, 60, api.ErrRange), probe.Field("Hi", &r.Hi, 40, 5000, api.ErrRange),
	)
	*r = api.GtRule{Gate: 0, Other: 1, Lo: 5000, Hi: 5000}
	if part, at, e := gate.CheckSet(l); part != 0 || at != 0 || e != api.OK {
		t.Errorf("CheckSet = %d, %d, %d", part, at, e)
	}
}
