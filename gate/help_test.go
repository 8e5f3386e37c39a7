package gate_test

import (
	"math/rand/v2"
	"slices"
	"testing"

	"barrage/api"
	"barrage/gate"
)

// random returns the same numbers in each run of a test.
func random() *rand.Rand { return rand.New(rand.NewPCG(3, 3)) }

// from returns a random number from lo to hi.
func from(r *rand.Rand, lo, hi int) int { return lo + r.IntN(hi-lo+1) }

func sp(lo, hi int) api.Span { return api.Span{Lo: lo, Hi: hi} }

// east is the chapter's G.
func east() api.GtGate {
	return api.GtGate{
		Name: "east", Kind: api.GtLift, Travel: 1000, Own: []int{600, 400},
		Open: 8000, Shut: -2000, Height: 9000, Float: 40, Slide: 5,
		Seal: 20, Drive: 900, Brake: 700, Speed: 25, Gravity: 40,
		Use: 100, Pump: 30, Capacity: 200, Slack: 10,
		Sensors: []api.GtSensor{{Kind: api.GtEncoder, Tol: 10}, {Kind: api.GtEncoder, Tol: 10}, {Kind: api.GtSwitch, At: 995, Tol: 5}},
		Wrong:   1,
	}
}

// named returns a gate with another name.
func named(g api.GtGate, name string) api.GtGate {
	g.Name = name
	return g
}

// pair is the chapter's S.
func pair() api.GtSet {
	return api.GtSet{
		Gates: []api.GtGate{east(), named(east(), "west")},
		Rules: []api.GtRule{{Gate: 1, Other: 0, Lo: 1000, Hi: 1000}},
	}
}

// plain is a gate whose closing force is Outer - Inner, in mm, and whose friction is 50.
func plain() api.GtGate {
	return api.GtGate{
		Name: "plain", Kind: api.GtSector, Travel: 100, Own: []int{0, 0}, Height: 1, Push: 1000,
		Seal: 50, Drive: 100, Brake: 30, Speed: 7, Gravity: 9,
	}
}

// step is the step of an order with so much more water outside.
func step(order int, power bool, head int) api.GtStep {
	return api.GtStep{Order: order, Power: power, Outer: head}
}

func at(pos int) api.GtState { return api.GtState{Pos: pos} }

// someGate returns a random gate without an error, which falls, slips, and is driven or not, by levels of a few metres.
func someGate(r *rand.Rand, name string) api.GtGate {
	g := api.GtGate{
		Name: name, Kind: from(r, api.GtSector, api.GtFlap), Travel: from(r, 1, 60),
		Open: from(r, -3000, 3000), Shut: from(r, -3000, 3000), Height: from(r, 1, 4000),
		Float: from(r, 0, 60), Push: from(r, -60, 60), Slide: from(r, 0, 20),
		Seal: from(r, 0, 60), Drive: from(r, 0, 200), Brake: from(r, 0, 100), Speed: from(r, 1, 12), Gravity: from(r, 1, 12),
		Use: from(r, 0, 300), Pump: from(r, 0, 10), Capacity: from(r, 0, 60),
	}
	g.Slack = from(r, 0, (g.Travel-1)/2)
	sign := map[int]int{api.GtLift: 1, api.GtFlap: -1}[g.Kind]
	for range from(r, 2, 6) {
		g.Own = append(g.Own, sign*from(r, 0, 150))
	}
	for range r.IntN(5) {
		s := api.GtSensor{Kind: from(r, api.GtEncoder, api.GtSwitch), Tol: from(r, 0, 4)}
		if s.Kind == api.GtSwitch {
			s.At = from(r, 0, g.Travel)
		}
		g.Sensors = append(g.Sensors, s)
	}
	g.Wrong = r.IntN(len(g.Sensors) + 1)
	return g
}

func someState(r *rand.Rand, g api.GtGate) api.GtState {
	return api.GtState{Pos: from(r, 0, g.Travel), Charge: from(r, 0, g.Capacity), Bolted: r.IntN(8) == 0}
}

func someStep(r *rand.Rand) api.GtStep {
	return api.GtStep{Order: from(r, api.GtHold, api.GtOpen), Power: r.IntN(2) == 0, Outer: from(r, -4000, 4000), Inner: from(r, -4000, 4000)}
}

// someSet returns a random set of gates without an error, with so many rules.
func someSet(r *rand.Rand, rules int) api.GtSet {
	var l api.GtSet
	for i := range from(r, 2, 4) {
		l.Gates = append(l.Gates, someGate(r, string(rune('a'+i))))
	}
	for range rules {
		n, lo := from(r, 0, len(l.Gates)-1), from(r, 0, 40)
		other := (n + from(r, 1, len(l.Gates)-1)) % len(l.Gates)
		l.Rules = append(l.Rules, api.GtRule{Gate: n, Other: other, Lo: lo, Hi: from(r, lo, 60)})
	}
	return l
}

func copyGate(g api.GtGate) api.GtGate {
	g.Own, g.Sensors = slices.Clone(g.Own), slices.Clone(g.Sensors)
	return g
}

func copySet(l api.GtSet) api.GtSet {
	l.Gates, l.Rules = slices.Clone(l.Gates), slices.Clone(l.Rules)
	for i, g := range l.Gates {
		l.Gates[i] = copyGate(g)
	}
	return l
}

// isStep reports whether Step does so, without an error.
func isStep(t *testing.T, g api.GtGate, s api.GtState, x api.GtStep, want api.GtState, moved api.GtMoved) {
	t.Helper()
	if y, m, e := gate.Step(g, s, x); y != want || m != moved || e != api.OK {
		t.Errorf("Step of %v by %v = %v, %v, %d, want %v, %v", s, x, y, m, e, want, moved)
	}
}
