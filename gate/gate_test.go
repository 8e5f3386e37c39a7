package gate_test

import (
	"math"
	"slices"
	"testing"

	"barrage/api"
	"barrage/gate"
)

// changed returns a gate with a change.
func changed(g api.GtGate, change func(g *api.GtGate)) api.GtGate {
	g = copyGate(g)
	change(&g)
	return g
}

func testForce(t *testing.T, g api.GtGate, pos, outer, inner, net, rub int) {
	t.Helper()
	if n, r, e := gate.Force(g, pos, outer, inner); n != net || r != rub || e != api.OK {
		t.Errorf("Force of %s at %d, %d and %d = %d, %d, %d, want %d, %d", g.Name, pos, outer, inner, n, r, e, net, rub)
	}
}

// P3.2
func TestForce(t *testing.T) {
	testForce(t, east(), 0, 3000, 1000, 600, 20)
	testForce(t, east(), 1000, 3000, 1000, 280, 70)
	testForce(t, east(), 1000, 1000, 3000, 280, 70)
	testForce(t, east(), 891, 9000, 8000, 65, 65)
	for _, c := range []struct{ pos, net int }{{0, -10}, {1, -15}, {3, -23}, {4, -22}, {6, -10}, {7, -3}} {
		flap := api.GtGate{Name: "flap", Kind: api.GtFlap, Travel: 7, Own: []int{-10, -25, -3}, Height: 1, Speed: 1, Gravity: 1}
		testForce(t, flap, c.pos, 0, 0, c.net, 0)
	}
	for _, c := range []struct{ pos, net int }{{0, 10}, {1, 14}, {3, 22}, {4, 21}, {6, 9}, {7, 3}} {
		lift := api.GtGate{Name: "lift", Kind: api.GtLift, Travel: 7, Own: []int{10, 25, 3}, Height: 1, Speed: 1, Gravity: 1}
		testForce(t, lift, c.pos, 0, 0, c.net, 0)
	}
}

// Water lifts by what is immersed on the lower side, rounded down before it counts; it closes a flap alone.
func TestForceOfWater(t *testing.T) {
	for kind, sign := range map[int]int{api.GtSector: -1, api.GtLift: -1, api.GtFlap: 1} {
		g := api.GtGate{Name: "g", Kind: kind, Travel: 7, Own: []int{0, 0}, Open: -3, Shut: -8, Height: 500, Float: 1000, Speed: 1, Gravity: 1}
		// The edge is -3, -26/7 (rounded down), .. and -8.
		for pos, edge := range []int{-3, -4, -5, -6, -6, -7, -8, -8} {
			testForce(t, g, pos, 0, 0, sign*-edge, 0)
			testForce(t, g, pos, 0, 9000, sign*-edge, 0)
			testForce(t, g, pos, 9000, 0, sign*-edge, 0)
			testForce(t, g, pos, edge, 0, 0, 0)
			testForce(t, g, pos, -9, 9000, 0, 0)
			testForce(t, g, pos, edge+500, edge+500, sign*500, 0)
			testForce(t, g, pos, 9000, edge+501, sign*500, 0)
		}
		g.Float = 3
		testForce(t, g, 0, 330, 330, 0, 0)
		testForce(t, g, 0, 331, 331, sign, 0)
		g.Height = 30000
		testForce(t, g, 0, 996, 996, sign*2, 0)
		testForce(t, g, 0, 997, 997, sign*3, 0)
	}
}

func TestForceOfHead(t *testing.T) {
	g := plain()
	for _, c := range []struct{ push, outer, inner, net int }{
		{1, 0, 1, -1}, {1, 0, 1000, -1}, {1, 0, 1001, -2}, {1, 999, 0, 0}, {1, 1999, 0, 1}, {-1, 1, 0, -1}, {-1, 1001, 0, -2}, {-1, 0, 1999, 1}, {7, -3, -150, 1}, {10000, 20000, -20000, 400000}, {10000, -20000, 20000, -400000},
	} {
		g.Push = c.push
		testForce(t, g, 50, c.outer, c.inner, c.net, 50)
	}
}

// The friction is Seal, and what the head presses on the height that is wet on the higher side, rounded up.
func TestFriction(t *testing.T) {
	g := api.GtGate{Name: "g", Kind: api.GtSector, Travel: 10, Own: []int{0, 0}, Open: 3000, Height: 2000, Slide: 1, Seal: 5, Speed: 1, Gravity: 1}
	for _, c := range []struct{ pos, outer, inner, rub int }{
		{10, 0, 0, 5}, {10, 1000, 1000, 5}, {10, 1, 0, 6}, {10, 0, 1, 6}, {10, 1000, 0, 6}, {10, 0, 1000, 6}, {10, 1001, 1, 7}, {10, 1001, 0, 7}, {10, 2000, 0, 9}, {10, 3000, 0, 11}, {10, -1, -9000, 5}, {10, 0, -9000, 5}, {10, 1, -9000, 6},
		{0, 3000, 0, 5}, {0, 3001, 0, 6}, {5, 2500, 1500, 6}, {5, 2501, 1501, 7}, {10, 20000, -20000, 85},
	} {
		testForce(t, g, c.pos, c.outer, c.inner, 0, c.rub)
	}
	g.Slide, g.Height, g.Seal = 10000, 30000, 200000
	testForce(t, g, 10, 20000, -20000, 0, 200000+10000*40*20)
}

func TestFalls(t *testing.T) {
	// The closing force is 100, 80, .. and 0 at Travel, and the friction 50.
	slow := changed(plain(), func(g *api.GtGate) { g.Kind, g.Own, g.Travel = api.GtLift, []int{100, 0}, 5 })
	for i, c := range []struct {
		g                  api.GtGate
		outer, inner, want int
	}{
		{east(), 3000, 1000, -1}, {east(), 9000, 8000, 891}, {slow, 0, 0, 3}, {slow, 1, 0, 3}, {slow, 10, 0, 3}, {slow, 11, 0, 4}, {slow, 30, 0, 4}, {slow, 31, 0, -1}, {slow, 0, 50, 0}, {slow, 0, 49, 1}, {plain(), 50, 0, 0}, {plain(), 51, 0, -1},
	} {
		if n, e := gate.Falls(c.g, c.outer, c.inner); n != c.want || e != api.OK {
			t.Errorf("%d: Falls = %d, %d, want %d", i, n, e, c.want)
		}
	}
}

// noLevels returns numbers that are no levels.
func noLevels() []int { return []int{math.MinInt, -20001, 20001, math.MaxInt} }

func TestForceErrors(t *testing.T) {
	for _, pos := range []int{math.MinInt, -1, 1001, math.MaxInt} {
		if n, r, e := gate.Force(east(), pos, 0, 0); n != 0 || r != 0 || e != api.ErrRange {
			t.Errorf("Force at %d = %d, %d, %d", pos, n, r, e)
		}
	}
	for _, x := range noLevels() {
		n1, r1, e1 := gate.Force(east(), 0, x, 0)
		n2, r2, e2 := gate.Force(east(), 0, 0, x)
		n3, e3 := gate.Falls(east(), x, 0)
		n4, e4 := gate.Falls(east(), 0, x)
		if e1 != api.ErrRange || e2 != api.ErrRange || e3 != api.ErrRange || e4 != api.ErrRange || n1 != 0 || r1 != 0 || n2 != 0 || r2 != 0 || n3 != 0 || n4 != 0 {
			t.Errorf("at %d: errors %d, %d, %d, %d", x, e1, e2, e3, e4)
		}
	}
	for _, x := range []int{-20000, 20000} {
		_, _, e := gate.Force(east(), 0, x, -x)
		if _, e1 := gate.Falls(east(), x, -x); e != api.OK || e1 != api.OK {
			t.Errorf("at %d: errors %d, %d", x, e, e1)
		}
	}
}

// P3.3
func TestStep(t *testing.T) {
	by := func(order int, power bool) api.GtStep {
		return api.GtStep{Order: order, Power: power, Outer: 3000, Inner: 1000}
	}
	isStep(t, east(), at(0), by(api.GtClose, false), at(40), api.GtMoved{Moved: 40})
	isStep(t, east(), api.GtState{Pos: 100, Charge: 100}, by(api.GtOpen, true), api.GtState{Pos: 75, Charge: 105}, api.GtMoved{Moved: -25, Oil: 25})
	isStep(t, east(), api.GtState{Pos: 100, Charge: 10}, by(api.GtOpen, true), api.GtState{Pos: 90, Charge: 30}, api.GtMoved{Moved: -10, Oil: 10})
	isStep(t, east(), api.GtState{Pos: 100, Charge: 100}, by(api.GtOpen, false), api.GtState{Pos: 100, Charge: 100}, api.GtMoved{})
	isStep(t, east(), api.GtState{Pos: 990}, by(api.GtClose, true), api.GtState{Pos: 1000, Charge: 30}, api.GtMoved{Moved: 10})
}

// Each order, where the force is just enough and where it is just not.
func TestOrders(t *testing.T) {
	for _, c := range []struct {
		order      int
		power      bool
		head, want int
	}{
		{api.GtClose, false, 51, 9}, {api.GtClose, true, 51, 9}, {api.GtClose, false, 50, 0}, {api.GtClose, true, 50, 7}, {api.GtClose, true, -49, 7}, {api.GtClose, true, -50, 0}, {api.GtClose, false, -500, 0}, {api.GtClose, true, -500, 0},
		{api.GtOpen, false, -51, -9}, {api.GtOpen, true, -51, -9}, {api.GtOpen, false, -50, 0}, {api.GtOpen, true, -50, -7}, {api.GtOpen, true, 49, -7}, {api.GtOpen, true, 50, 0}, {api.GtOpen, false, 500, 0}, {api.GtOpen, true, 500, 0},
		{api.GtHold, false, 81, 9}, {api.GtHold, true, 81, 9}, {api.GtHold, true, 80, 0}, {api.GtHold, false, 0, 0}, {api.GtHold, true, -80, 0}, {api.GtHold, false, -81, -9}, {api.GtHold, true, -81, -9},
	} {
		for _, pos := range []int{0, 4, 50, 95, 100} {
			end := min(max(pos+c.want, 0), 100)
			isStep(t, plain(), at(pos), step(c.order, c.power, c.head), at(end), api.GtMoved{Moved: end - pos})
		}
	}
}

// A bolted gate does not move, whatever pushes it, and refuses an order; its oil is pumped.
func TestBoltedStep(t *testing.T) {
	g := plain()
	g.Pump, g.Capacity = 3, 5
	for order, refused := range map[int]api.Errno{api.GtHold: api.OK, api.GtClose: api.GtErrBolt, api.GtOpen: api.GtErrBolt} {
		for _, head := range []int{-20000, -51, 0, 51, 20000} {
			s := api.GtState{Pos: 50, Charge: 1, Bolted: true}
			isStep(t, g, s, step(order, false, head), s, api.GtMoved{Refused: refused})
			isStep(t, g, s, step(order, true, head), api.GtState{Pos: 50, Charge: 4, Bolted: true}, api.GtMoved{Refused: refused})
		}
	}
}

// A gate is driven as far as there is oil for it before any is pumped; the oil is rounded up.
func TestOil(t *testing.T) {
	for _, c := range []struct{ use, pos, charge, pump, cm, oil, left int }{
		{100, 50, 7, 0, 7, 7, 0}, {100, 50, 6, 5, 6, 6, 5}, {100, 50, 0, 5, 0, 0, 5}, {100, 50, 20, 5, 7, 7, 18}, {100, 50, 20, 15, 7, 7, 20}, {100, 50, 20, 100000, 7, 7, 20}, {100, 97, 20, 0, 3, 3, 17}, {100, 100, 20, 0, 0, 0, 20},
		{150, 50, 8, 0, 5, 8, 0}, {150, 50, 9, 0, 6, 9, 0}, {150, 50, 10, 0, 6, 9, 1}, {150, 50, 11, 0, 7, 11, 0},
		{30, 50, 2, 0, 6, 2, 0}, {30, 50, 3, 0, 7, 3, 0}, {1, 50, 1, 0, 7, 1, 0}, {1, 50, 0, 0, 0, 0, 0}, {0, 50, 0, 2, 7, 0, 2}, {2001, 50, 20, 0, 0, 0, 20}, {2000, 50, 20, 0, 1, 20, 0}, {100000, 50, 20, 0, 0, 0, 20},
	} {
		g := changed(plain(), func(g *api.GtGate) { g.Use, g.Pump, g.Capacity = c.use, c.pump, 20 })
		isStep(t, g, api.GtState{Pos: c.pos, Charge: c.charge}, step(api.GtClose, true, 0), api.GtState{Pos: c.pos + c.cm, Charge: c.left}, api.GtMoved{Moved: c.cm, Oil: c.oil})
		isStep(t, g, api.GtState{Pos: 100 - c.pos, Charge: c.charge}, step(api.GtOpen, true, 0), api.GtState{Pos: 100 - c.pos - c.cm, Charge: c.left}, api.GtMoved{Moved: -c.cm, Oil: c.oil})
		// A gate that falls, is held or has no power uses none; without power none is pumped.
		pumped := min(c.charge+c.pump, 20)
		isStep(t, g, api.GtState{Pos: 10, Charge: c.charge}, step(api.GtClose, true, 51), api.GtState{Pos: 19, Charge: pumped}, api.GtMoved{Moved: 9})
		isStep(t, g, api.GtState{Pos: 10, Charge: c.charge}, step(api.GtHold, true, 0), api.GtState{Pos: 10, Charge: pumped}, api.GtMoved{})
		isStep(t, g, api.GtState{Pos: 10, Charge: c.charge}, step(api.GtClose, false, 51), api.GtState{Pos: 19, Charge: c.charge}, api.GtMoved{Moved: 9})
		isStep(t, g, api.GtState{Pos: 10, Charge: c.charge}, step(api.GtClose, false, 0), api.GtState{Pos: 10, Charge: c.charge}, api.GtMoved{})
	}
}

// The error of a state comes before that of an order, and this before that of a level.
func TestStepErrors(t *testing.T) {
	g := east()
	fine := api.GtState{Pos: 1000, Charge: 200, Bolted: true}
	for i, c := range []struct {
		s api.GtState
		x api.GtStep
		e api.Errno
	}{
		{fine, api.GtStep{}, api.OK}, {fine, api.GtStep{Order: api.GtOpen, Outer: 20000, Inner: -20000}, api.OK}, {at(0), api.GtStep{Outer: -20000, Inner: 20000}, api.OK},
		{at(-1), api.GtStep{Order: 3}, api.ErrRange}, {at(1001), api.GtStep{}, api.ErrRange}, {at(math.MinInt), api.GtStep{}, api.ErrRange}, {at(math.MaxInt), api.GtStep{}, api.ErrRange},
		{api.GtState{Charge: -1}, api.GtStep{Order: 3}, api.ErrRange}, {api.GtState{Charge: 201}, api.GtStep{}, api.ErrRange}, {api.GtState{Charge: math.MinInt}, api.GtStep{}, api.ErrRange}, {api.GtState{Charge: math.MaxInt}, api.GtStep{}, api.ErrRange},
		{fine, api.GtStep{Order: 3, Outer: 20001}, api.ErrArg}, {fine, api.GtStep{Order: -1}, api.ErrArg}, {fine, api.GtStep{Order: math.MinInt}, api.ErrArg}, {fine, api.GtStep{Order: math.MaxInt}, api.ErrArg},
		{fine, api.GtStep{Outer: 20001}, api.ErrRange}, {fine, api.GtStep{Inner: 20001}, api.ErrRange}, {fine, api.GtStep{Outer: -20001}, api.ErrRange}, {fine, api.GtStep{Inner: math.MinInt}, api.ErrRange}, {fine, api.GtStep{Outer: math.MaxInt}, api.ErrRange},
	} {
		s, m, e := gate.Step(g, c.s, c.x)
		if e != c.e || e != api.OK && (s != api.GtState{} || m != api.GtMoved{}) {
			t.Errorf("%d: Step = %v, %v, %d, want %d", i, s, m, e, c.e)
		}
		l, e1 := gate.Run(g, c.s, []api.GtStep{{}, c.x, {Order: 5}})
		if c.e == api.OK {
			c.e = api.ErrArg // that of the third step
		}
		if e1 != c.e || l != nil {
			t.Errorf("%d: Run = %v, %d, want %d", i, l, e1, c.e)
		}
	}
}

func TestRun(t *testing.T) {
	g := plain()
	g.Use, g.Pump, g.Capacity = 100, 2, 5
	l, e := gate.Run(g, api.GtState{Pos: 10, Charge: 5}, []api.GtStep{step(api.GtClose, true, 0), step(api.GtClose, true, 0), step(api.GtClose, false, 60), step(api.GtHold, true, 0), step(api.GtOpen, false, 0), step(api.GtHold, false, -90), step(api.GtOpen, true, 0)})
	if want := []api.GtState{{Pos: 15, Charge: 2}, {Pos: 17, Charge: 2}, {Pos: 26, Charge: 2}, {Pos: 26, Charge: 4}, {Pos: 26, Charge: 4}, {Pos: 17, Charge: 4}, {Pos: 13, Charge: 2}}; e != api.OK || !slices.Equal(l, want) {
		t.Errorf("Run = %v, %d, want %v", l, e, want)
	}
	if l, e := gate.Run(g, at(10), nil); len(l) != 0 || e != api.OK {
		t.Errorf("Run = %v, %d", l, e)
	}
	if l, e := gate.Run(g, at(10), make([]api.GtStep, 2000)); len(l) != 2000 || e != api.OK {
		t.Errorf("Run of 2000 steps: %d states, %d", len(l), e)
	}
}

// That there are too many steps comes before the error of the state, and this before those of the steps.
func TestRunErrors(t *testing.T) {
	many := make([]api.GtStep, 2001)
	many[0].Order = 3
	for i, c := range []struct {
		s api.GtState
		l []api.GtStep
		e api.Errno
	}{
		{at(-1), many, api.ErrLong}, {at(-1), many[:2000], api.ErrRange}, {at(-1), nil, api.ErrRange}, {api.GtState{Charge: 1}, nil, api.ErrRange}, {at(0), many[:1], api.ErrArg},
		{at(0), []api.GtStep{{}, {Outer: 20001}, {Order: 3}}, api.ErrRange}, {at(0), []api.GtStep{{}, {Order: 3}, {Outer: 20001}}, api.ErrArg},
	} {
		if l, e := gate.Run(plain(), c.s, c.l); l != nil || e != c.e {
			t.Errorf("%d: Run = %v, %d, want %d", i, l, e, c.e)
		}
	}
}

// P3.4
func TestTime(t *testing.T) {
	long := changed(plain(), func(g *api.GtGate) { g.Travel, g.Gravity, g.Speed = 5000, 1, 2 })
	oily := changed(plain(), func(g *api.GtGate) { g.Use, g.Pump, g.Capacity = 100, 1, 10 })
	for i, c := range []struct {
		g            api.GtGate
		s            api.GtState
		outer, inner int
		power        bool
		want         int
		e            api.Errno
	}{
		{east(), at(0), 3000, 1000, false, 25, api.OK}, {east(), at(1), 3000, 1000, false, 25, api.OK}, {east(), at(40), 3000, 1000, true, 24, api.OK}, {east(), at(1000), 3000, 1000, false, 0, api.OK},
		{plain(), at(0), 51, 0, false, 12, api.OK}, {plain(), at(0), 50, 0, true, 15, api.OK}, {plain(), at(0), 50, 0, false, 0, api.ErrDown}, {plain(), at(99), 50, 0, false, 0, api.ErrDown}, {plain(), at(100), -20000, 20000, false, 0, api.OK}, {plain(), at(99), 51, 0, false, 1, api.OK},
		{plain(), api.GtState{Pos: 99, Bolted: true}, 51, 0, true, 0, api.ErrDown}, {plain(), api.GtState{Pos: 100, Bolted: true}, 51, 0, true, 0, api.OK},
		{long, at(3000), 51, 0, false, 2000, api.OK}, {long, at(2999), 51, 0, false, 0, api.ErrDown}, {long, at(2999), 51, 0, true, 0, api.ErrDown}, {long, at(1000), 50, 0, true, 2000, api.OK}, {long, at(999), 50, 0, true, 0, api.ErrDown},
		// 7 and then 4 cm with the oil that is there, and then one cm in each step; without any the first step only pumps.
		{oily, api.GtState{Charge: 10}, 0, 0, true, 91, api.OK}, {oily, at(0), 0, 0, true, 101, api.OK},
	} {
		if n, e := gate.Time(c.g, c.s, c.outer, c.inner, c.power); n != c.want || e != c.e {
			t.Errorf("%d: Time = %d, %d, want %d, %d", i, n, e, c.want, c.e)
		}
	}
}

func TestTimeErrors(t *testing.T) {
	for _, s := range []api.GtState{at(-1), at(101), {Charge: -1}, {Charge: 1}, at(math.MinInt), at(math.MaxInt)} {
		if n, e := gate.Time(plain(), s, math.MaxInt, 0, true); n != 0 || e != api.ErrRange {
			t.Errorf("Time from %v = %d, %d", s, n, e)
		}
	}
	for _, x := range noLevels() {
		n1, e1 := gate.Time(plain(), at(100), x, 0, true)
		n2, e2 := gate.Time(plain(), at(0), 0, x, false)
		if n1 != 0 || n2 != 0 || e1 != api.ErrRange || e2 != api.ErrRange {
			t.Errorf("Time at %d = %d, %d, %d, %d", x, n1, e1, n2, e2)
		}
	}
}
