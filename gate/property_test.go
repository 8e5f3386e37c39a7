package gate_test

import (
	"math"
	"math/big"
	"math/rand/v2"
	"reflect"
	"slices"
	"testing"

	"barrage/api"
	"barrage/gate"
)

// down returns the greatest integer that is not above a fraction.
func down(x *big.Rat) int {
	n := new(big.Int).Div(x.Num(), x.Denom())
	return int(n.Int64())
}

func frac(n, by int) *big.Rat { return big.NewRat(int64(n), int64(by)) }

// along returns, rounded down, what is between two numbers, at a part of the way from the first to the second one.
func along(a, b int, part *big.Rat) int {
	x := new(big.Rat).Mul(frac(b-a, 1), part)
	return down(x.Add(x, frac(a, 1)))
}

// clamp returns a level above an edge, within a height.
func clamp(x, height int) int { return max(0, min(x, height)) }

// forces returns the closing force and the friction by their definitions.
func forces(g api.GtGate, pos, outer, inner int) (net, rub int) {
	part := frac(pos*(len(g.Own)-1), g.Travel)
	k := min(down(part), len(g.Own)-2)
	net = along(g.Own[k], g.Own[k+1], part.Sub(part, frac(k, 1)))
	edge := along(g.Open, g.Shut, frac(pos, g.Travel))
	float := down(frac(g.Float*clamp(min(outer, inner)-edge, g.Height), 1000))
	if g.Kind == api.GtFlap {
		net += float
	} else {
		net -= float
	}
	net += down(frac(g.Push*(outer-inner), 1000))
	size := max(outer-inner, inner-outer)
	return net, g.Seal - down(frac(-g.Slide*size*clamp(max(outer, inner)-edge, g.Height), 1000000))
}

// ways counts what gates did in steps.
type ways map[string]int

// byOrder returns by how far a gate goes towards an end, which is so many cm away, and the oil for it, by the definition.
func (w ways) byOrder(g api.GtGate, s api.GtState, power bool, force, rub, left int) (cm, oil int) {
	if force > rub {
		w["falls"]++
		return min(g.Gravity, left), 0
	}
	if !power || force+g.Drive <= rub {
		w["stuck"]++
		return 0, 0
	}
	w["driven"]++
	for cm = min(g.Speed, left); cm > 0; cm-- {
		for oil = 0; oil*100 < cm*g.Use; oil++ {
		}
		if oil <= s.Charge {
			return cm, oil
		}
		w["short of oil"]++
	}
	return 0, 0
}

// done returns what a step does by the definition, if it is refused for a reason (OK: it is not).
func (w ways) done(g api.GtGate, s api.GtState, x api.GtStep, refused api.Errno) (api.GtState, api.GtMoved) {
	if x.Order == api.GtHold {
		refused = api.OK
	} else if s.Bolted {
		refused = api.GtErrBolt
	}
	net, rub := forces(g, s.Pos, x.Outer, x.Inner)
	cm, oil := 0, 0
	switch {
	case s.Bolted:
		w["bolted"]++
	case x.Order == api.GtClose && refused == api.OK:
		cm, oil = w.byOrder(g, s, x.Power, net, rub, g.Travel-s.Pos)
	case x.Order == api.GtOpen && refused == api.OK:
		cm, oil = w.byOrder(g, s, x.Power, -net, rub, s.Pos)
		cm = -cm
	case net > g.Brake+rub:
		w["slips shut"]++
		cm = min(g.Gravity, g.Travel-s.Pos)
	case -net > g.Brake+rub:
		w["slips open"]++
		cm = -min(g.Gravity, s.Pos)
	default:
		w["held"]++
	}
	s.Pos += cm
	s.Charge -= oil
	if x.Power {
		s.Charge = min(s.Charge+g.Pump, g.Capacity)
	}
	return s, api.GtMoved{Refused: refused, Moved: cm, Oil: oil}
}

// P3.2, P3.3 by their definitions.
func TestForceAndStepAreExact(t *testing.T) {
	r := random()
	w := ways{}
	for range 20000 {
		g := someGate(r, "g")
		s, x := someState(r, g), someStep(r)
		net, rub := forces(g, s.Pos, x.Outer, x.Inner)
		testForce(t, g, s.Pos, x.Outer, x.Inner, net, rub)
		want, moved := w.done(g, s, x, api.OK)
		isStep(t, g, s, x, want, moved)
		if t.Failed() {
			t.Fatalf("%v", g)
		}
	}
	for _, way := range []string{"falls", "stuck", "driven", "short of oil", "bolted", "slips shut", "slips open", "held"} {
		if w[way] < 300 {
			t.Errorf("%s: %d times", way, w[way])
		}
	}
}

// P3.9, P3.11: what holds in each step.
func TestLimits(t *testing.T) {
	r := random()
	for range 10000 {
		g := someGate(r, "g")
		s, x := someState(r, g), someStep(r)
		y, m, _ := gate.Step(g, s, x)
		net, rub, _ := gate.Force(g, s.Pos, x.Outer, x.Inner)
		pumped := 0
		if x.Power {
			pumped = g.Pump
		}
		size := max(m.Moved, -m.Moved)
		switch {
		case y.Pos < 0 || y.Pos > g.Travel || y.Charge < 0 || y.Charge > g.Capacity || y.Bolted != s.Bolted:
			t.Fatalf("%v: %v after %v, %v", g, y, s, x)
		case y.Pos-s.Pos != m.Moved || size > max(g.Speed, g.Gravity) || y.Charge != min(s.Charge-m.Oil+pumped, g.Capacity):
			t.Fatalf("%v: %v, %v after %v, %v", g, y, m, s, x)
		case m.Oil != 0 && (!x.Power || x.Order == api.GtHold || s.Bolted || m.Oil != (size*g.Use+99)/100 || net > rub && x.Order == api.GtClose || -net > rub && x.Order == api.GtOpen):
			t.Fatalf("%v: oil of %v after %v, %v", g, m, s, x)
		case s.Bolted && m.Moved != 0:
			t.Fatalf("%v: bolted, and moved by %v", g, m)
		case x.Order == api.GtHold && m.Moved != 0 && (max(net, -net) <= g.Brake+rub || (m.Moved > 0) != (net > 0)):
			t.Fatalf("%v: held, and moved by %v", g, m)
		}
	}
}

// someFalling returns a random gate, mostly one that falls between two levels.
func someFalling(r *rand.Rand) (g api.GtGate, outer, inner int) {
	g = someGate(r, "g")
	g.Push, g.Slide = from(r, 0, 60), from(r, 0, 3)
	inner = from(r, -4000, 4000)
	return g, min(inner+from(r, 0, 4000), 4000), inner
}

// P3.2, P3.10: Falls by its definition; if there is no such position, the gate closes without power and oil.
func TestFallsCloses(t *testing.T) {
	r := random()
	falling := 0
	for range 3000 {
		g, outer, inner := someFalling(r)
		n, e := gate.Falls(g, outer, inner)
		first := -1
		for pos := g.Travel - 1; pos >= 0; pos-- {
			if net, rub := forces(g, pos, outer, inner); net <= rub {
				first = pos
			}
		}
		if n != first || e != api.OK {
			t.Fatalf("%v: Falls at %d and %d = %d, %d, want %d", g, outer, inner, n, e, first)
		}
		if n >= 0 {
			continue
		}
		falling++
		for pos := range g.Travel + 1 {
			want := (g.Travel - pos + g.Gravity - 1) / g.Gravity
			states, _ := gate.Run(g, at(pos), all(want, api.GtStep{Order: api.GtClose, Outer: outer, Inner: inner}))
			time, e := gate.Time(g, at(pos), outer, inner, false)
			if want > 0 && states[want-1].Pos != g.Travel || time != want || e != api.OK {
				t.Fatalf("%v: from %d between %d and %d: %v; Time = %d, %d", g, pos, outer, inner, states, time, e)
			}
		}
	}
	if falling < 300 {
		t.Errorf("%d gates fall", falling)
	}
}

// P3.10 at the limits: a gate that falls is slower than MaxGtSteps allows.
func TestFallsSlowly(t *testing.T) {
	g := plain()
	g.Travel, g.Gravity = 5000, 1
	n, e := gate.Falls(g, 51, 0)
	if _, e1 := gate.Time(g, at(0), 51, 0, false); n != -1 || e != api.OK || e1 != api.ErrDown {
		t.Errorf("Falls = %d, %d; Time: %d", n, e, e1)
	}
}

// P3.15: Time is the first step of a run that has the gate shut, and it stays shut.
func TestTimeIsFirst(t *testing.T) {
	r := random()
	seen := map[api.Errno]int{}
	for range 1000 {
		g, x := someGate(r, "g"), someStep(r)
		s := someState(r, g)
		x.Order = api.GtClose
		states, _ := gate.Run(g, s, all(api.MaxGtSteps, x))
		first := slices.IndexFunc(append([]api.GtState{s}, states...), func(s api.GtState) bool { return s.Pos == g.Travel })
		n, e := gate.Time(g, s, x.Outer, x.Inner, x.Power)
		seen[e]++
		if first < 0 && (n != 0 || e != api.ErrDown) || first >= 0 && (n != first || e != api.OK) {
			t.Fatalf("%v: Time from %v by %v = %d, %d, want %d", g, s, x, n, e, first)
		}
		if first < 0 {
			continue
		}
		for _, after := range states[first:] {
			if after.Pos != g.Travel {
				t.Fatalf("%v: shut after %d steps, and then %v", g, first, after)
			}
		}
	}
	if seen[api.OK] < 200 || seen[api.ErrDown] < 200 {
		t.Errorf("errors: %v", seen)
	}
}

// refusal returns why an order is refused, beside bolts, by the definition.
func refusal(l api.GtSet, i int, states []api.GtState, ship bool) api.Errno {
	if ship {
		return api.GtErrShip
	}
	for _, r := range l.Rules {
		if pos := states[r.Other].Pos; r.Gate == i && (pos < r.Lo || pos > r.Hi) {
			return api.GtErrRule
		}
	}
	return api.OK
}

// P3.8, P3.14: a gate whose order is refused does what it does with GtHold, and any other one what it does alone.
func TestMoveIsExact(t *testing.T) {
	r := random()
	w, seen := ways{}, map[api.Errno]int{}
	for range 4000 {
		l := someSet(r, r.IntN(5))
		var states []api.GtState
		var steps []api.GtStep
		var ships []bool
		for _, g := range l.Gates {
			states, steps, ships = append(states, someState(r, g)), append(steps, someStep(r)), append(ships, r.IntN(4) == 0)
		}
		next, moved, e := gate.Move(l, states, steps, ships)
		if e != api.OK || len(next) != len(l.Gates) || len(moved) != len(l.Gates) {
			t.Fatalf("%v: Move = %v, %v, %d", l, next, moved, e)
		}
		for i, g := range l.Gates {
			want, came := w.done(g, states[i], steps[i], refusal(l, i, states, ships[i]))
			if next[i] != want || moved[i] != came {
				t.Fatalf("%v: Move of %v by %v: gate %d %v, %v, want %v, %v", l, states, steps, i, next[i], moved[i], want, came)
			}
			alone := steps[i]
			if came.Refused != api.OK {
				alone.Order = api.GtHold
			}
			isStep(t, g, states[i], alone, want, api.GtMoved{Moved: came.Moved, Oil: came.Oil})
			seen[came.Refused]++
		}
	}
	for _, e := range []api.Errno{api.OK, api.GtErrBolt, api.GtErrShip, api.GtErrRule} {
		if seen[e] < 300 {
			t.Errorf("refused by %d: %d times", e, seen[e])
		}
	}
}

// someClosing returns a random set, states, and two levels between which its gates mostly close.
func someClosing(r *rand.Rand, rules int) (l api.GtSet, states []api.GtState, outer, inner int) {
	l = someSet(r, rules)
	for i := range l.Gates {
		g := &l.Gates[i]
		g.Drive = from(r, 100, 500)
		g.Use = r.IntN(2) * g.Use
		s := someState(r, *g)
		s.Bolted = r.IntN(30) == 0
		states = append(states, s)
	}
	return l, states, from(r, -1000, 1000), from(r, -1000, 1000)
}

// P3.8: Delay is the first step of Moves after which all gates are shut, in ticks.
func TestDelayIsFirst(t *testing.T) {
	r := random()
	seen := map[api.Errno]int{}
	for range 400 {
		l, states, outer, inner := someClosing(r, r.IntN(3))
		n, e := gate.Delay(l, states, outer, inner, true)
		steps := all(len(l.Gates), api.GtStep{Order: api.GtClose, Power: true, Outer: outer, Inner: inner})
		first := -1
		now := states
		for i := 0; i <= api.MaxGtSteps && first < 0; i++ {
			open := false
			for j, g := range l.Gates {
				open = open || now[j].Pos < g.Travel
			}
			if !open {
				first = i
			}
			now, _, _ = gate.Move(l, now, steps, make([]bool, len(l.Gates)))
		}
		seen[e]++
		if first < 0 && (n != 0 || e != api.ErrDown) || first >= 0 && (n != (first+9)/10 || e != api.OK) {
			t.Fatalf("%v: Delay from %v at %d and %d = %d, %d, want %d", l, states, outer, inner, n, e, first)
		}
	}
	if seen[api.OK] < 40 || seen[api.ErrDown] < 40 {
		t.Errorf("errors: %v", seen)
	}
}

// P3.15: without rules Delay is the greatest Time, in ticks.
func TestDelayWithoutRules(t *testing.T) {
	r := random()
	seen := map[api.Errno]int{}
	for range 500 {
		l, states, outer, inner := someClosing(r, 0)
		power := r.IntN(4) > 0
		most, wrong := 0, api.OK
		for i, g := range l.Gates {
			n, e := gate.Time(g, states[i], outer, inner, power)
			most, wrong = max(most, n), max(wrong, e)
		}
		if wrong != api.OK {
			most = 0
		}
		n, e := gate.Delay(l, states, outer, inner, power)
		seen[e]++
		if n != (most+9)/10 || e != wrong {
			t.Fatalf("%v: Delay from %v at %d and %d = %d, %d, want %d steps, %d", l, states, outer, inner, n, e, most, wrong)
		}
	}
	if seen[api.OK] < 40 || seen[api.ErrDown] < 40 {
		t.Errorf("errors: %v", seen)
	}
}

// callAll calls each function of the package, and returns all that came of it and is more than a number.
func callAll(l api.GtSet, states []api.GtState, steps []api.GtStep, ships []bool, readings []int, a, b int) []any {
	gate.CheckSet(l)
	next, moved, _ := gate.Move(l, states, steps, ships)
	gate.Delay(l, states, a, b, true)
	out := []any{next, moved}
	for _, g := range l.Gates {
		gate.Check(g)
		gate.Force(g, a, b, a)
		gate.Falls(g, a, b)
		gate.Where(g, readings)
		gate.Sure(g, readings)
		for _, s := range states {
			for _, x := range steps {
				gate.Step(g, s, x)
			}
			run, _ := gate.Run(g, s, steps)
			out = append(out, run)
			gate.Time(g, s, a, b, false)
			gate.Bolt(g, s, true, readings)
			gate.Bolt(g, s, false, readings)
		}
	}
	return out
}

// P3.16: any arguments are accepted, and not modified.
func TestAnyArguments(t *testing.T) {
	least, most := math.MinInt, math.MaxInt
	wild := api.GtGate{Name: "wild", Kind: api.GtLift, Travel: most, Own: []int{least, most}, Height: most, Float: most, Push: least, Slide: most, Speed: most, Gravity: least, Use: least, Slack: most, Sensors: []api.GtSensor{{Kind: api.GtEncoder, Tol: most}}, Wrong: least}
	none := api.GtGate{Name: "none", Kind: api.GtSector, Own: []int{0, 0}, Travel: least, Slack: least}
	sets := []api.GtSet{
		{}, pair(), plains(2), plains(7), {Gates: make([]api.GtGate, 2)}, {Gates: []api.GtGate{east(), wild}}, {Gates: []api.GtGate{none, wild}},
		plains(2, api.GtRule{Gate: least, Other: most, Lo: most, Hi: least}, api.GtRule{}), plains(2, make([]api.GtRule, 13)...),
	}
	states := [][]api.GtState{nil, all(2, at(0)), {at(least), at(most)}, {{Pos: 100, Charge: most}, {Pos: 1000, Charge: least, Bolted: true}}, all(7, api.GtState{Bolted: true})}
	steps := [][]api.GtStep{nil, all(2, step(api.GtClose, true, 0)), {{Order: least, Outer: most}, {Order: most, Inner: least}}, all(7, step(api.GtOpen, true, 90))}
	readings := [][]int{nil, {least, most, 1}, {most}, make([]int, 9)}
	for _, l := range sets {
		for i, s := range states {
			for j, x := range steps {
				v, ships := readings[(i+j)%len(readings)], []bool{true, false}
				set, s1, x1, v1 := copySet(l), slices.Clone(s), slices.Clone(x), slices.Clone(v)
				for _, a := range []int{least, -20001, -1, 0, 100, 20000, most} {
					callAll(l, s, x, ships, v, a, -a)
				}
				if !reflect.DeepEqual(l, set) || !slices.Equal(s, s1) || !slices.Equal(x, x1) || !slices.Equal(v, v1) || !slices.Equal(ships, []bool{true, false}) {
					t.Fatalf("arguments changed: %v, %v, %v, %v", l, s, x, v)
				}
			}
		}
	}
}

// P3.16: results are new memory, and nothing is kept between calls.
func TestNewMemory(t *testing.T) {
	l, states, steps := pair(), []api.GtState{{Pos: 40, Charge: 7}, {Pos: 80, Bolted: true}}, []api.GtStep{{Order: api.GtClose, Power: true}, {Power: true, Outer: 50}}
	call := func() []any { return callAll(l, states, steps, make([]bool, 2), []int{500, 510, 0}, 100, 200) }
	want := call()
	for _, x := range call() {
		switch x := x.(type) {
		case []api.GtState:
			for i := range x {
				x[i] = at(7777)
			}
		case []api.GtMoved:
			for i := range x {
				x[i] = api.GtMoved{Oil: 7777}
			}
		}
	}
	if again := call(); !reflect.DeepEqual(again, want) || !reflect.DeepEqual(l, pair()) || states[0] != (api.GtState{Pos: 40, Charge: 7}) || states[1] != (api.GtState{Pos: 80, Bolted: true}) {
		t.Errorf("a result shares memory")
	}
}
