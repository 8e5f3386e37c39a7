package gate_test

import (
	"math"
	"slices"
	"testing"

	"barrage/api"
	"barrage/gate"
)

// plains returns a set of so many plain gates, with rules.
func plains(n int, rules ...api.GtRule) api.GtSet {
	return api.GtSet{Gates: gates(n), Rules: rules}
}

func all[T any](n int, x T) []T { return slices.Repeat([]T{x}, n) }

// testMove does a step of a set in which all gates have the same order, without power.
func testMove(t *testing.T, l api.GtSet, states []api.GtState, x api.GtStep, ships []bool, refused []api.Errno, moved []int) {
	t.Helper()
	next, came, e := gate.Move(l, states, all(len(states), x), ships)
	if e != api.OK || len(next) != len(states) || len(came) != len(states) {
		t.Errorf("Move of %v = %v, %v, %d", states, next, came, e)
		return
	}
	for i, s := range states {
		want := s
		want.Pos += moved[i]
		if next[i] != want || came[i] != (api.GtMoved{Refused: refused[i], Moved: moved[i]}) {
			t.Errorf("Move of %v: gate %d %v, %v, want %v by %d", states, i, next[i], came[i], refused[i], moved[i])
		}
	}
}

// P3.8
func TestMove(t *testing.T) {
	ok, bolt, ship, rule := api.OK, api.GtErrBolt, api.GtErrShip, api.GtErrRule
	down := api.GtStep{Order: api.GtClose, Outer: 3000, Inner: 1000}
	free := make([]bool, 2)
	testMove(t, pair(), all(2, at(0)), down, free, []api.Errno{ok, rule}, []int{40, 0})
	testMove(t, pair(), all(2, at(0)), down, []bool{true, false}, []api.Errno{ship, rule}, []int{0, 0})
	testMove(t, pair(), all(2, at(0)), down, []bool{false, true}, []api.Errno{ok, ship}, []int{40, 0})
	testMove(t, pair(), []api.GtState{at(1000), at(0)}, down, free, []api.Errno{ok, ok}, []int{0, 40})
	// The rule looks at the position before the step.
	testMove(t, pair(), []api.GtState{at(990), at(0)}, down, free, []api.Errno{ok, rule}, []int{10, 0})
	// Bolts come before ships, and ships before rules; the order to hold is not refused.
	fast := api.GtState{Bolted: true}
	testMove(t, pair(), []api.GtState{at(0), fast}, down, []bool{true, true}, []api.Errno{ship, bolt}, []int{0, 0})
	testMove(t, pair(), []api.GtState{fast, fast}, down, free, []api.Errno{bolt, bolt}, []int{0, 0})
	testMove(t, pair(), []api.GtState{at(0), fast}, api.GtStep{Outer: 3000}, []bool{true, true}, []api.Errno{ok, ok}, []int{0, 0})
}

// A gate whose order is refused does what it does with the order to hold: it may slip.
func TestRefusedSlips(t *testing.T) {
	ok, bolt, ship, rule := api.OK, api.GtErrBolt, api.GtErrShip, api.GtErrRule
	l := plains(2, api.GtRule{Gate: 1, Other: 0, Lo: 20, Hi: 30})
	both := []api.GtState{at(50), at(50)}
	for _, c := range []struct{ order, head, free, held int }{{api.GtClose, 81, 9, 9}, {api.GtClose, 80, 9, 0}, {api.GtOpen, -81, -9, -9}, {api.GtOpen, -80, -9, 0}, {api.GtOpen, 81, 0, 9}, {api.GtClose, -81, 0, -9}} {
		x := step(c.order, false, c.head)
		testMove(t, l, both, x, []bool{false, false}, []api.Errno{ok, rule}, []int{c.free, c.held})
		testMove(t, l, both, x, []bool{true, true}, []api.Errno{ship, ship}, []int{c.held, c.held})
		testMove(t, l, []api.GtState{{Pos: 50, Bolted: true}, at(50)}, x, []bool{true, false}, []api.Errno{bolt, rule}, []int{0, c.held})
		// Both ends of the rule are in it.
		for pos, refused := range map[int]api.Errno{19: rule, 20: ok, 30: ok, 31: rule} {
			moved := map[api.Errno]int{ok: c.free, rule: c.held}[refused]
			testMove(t, l, []api.GtState{at(pos), at(50)}, x, []bool{false, false}, []api.Errno{ok, refused}, []int{c.free, moved})
		}
	}
}

// Each rule for a gate counts, and none for another one.
func TestSeveralRules(t *testing.T) {
	l := plains(3, api.GtRule{Gate: 2, Other: 0, Lo: 50, Hi: 100}, api.GtRule{Gate: 0, Other: 1, Lo: 0, Hi: 100}, api.GtRule{Gate: 2, Other: 1, Lo: 0, Hi: 60})
	x := step(api.GtClose, false, 60)
	for _, c := range []struct {
		first, second int
		refused       api.Errno
		moved         int
	}{{50, 60, api.OK, 9}, {49, 60, api.GtErrRule, 0}, {50, 61, api.GtErrRule, 0}, {49, 61, api.GtErrRule, 0}} {
		testMove(t, l, []api.GtState{at(c.first), at(c.second), at(0)}, x, make([]bool, 3), []api.Errno{api.OK, api.OK, c.refused}, []int{9, 9, c.moved})
	}
}

// Each gate has its own step: its order, its power and its levels.
func TestMoveOfOwnSteps(t *testing.T) {
	l := plains(3)
	for i := range l.Gates {
		l.Gates[i].Use, l.Gates[i].Pump, l.Gates[i].Capacity = 100, 1, 20
	}
	states := []api.GtState{{Pos: 50, Charge: 10}, {Pos: 60, Charge: 12}, {Pos: 70, Charge: 14}}
	next, moved, e := gate.Move(l, states, []api.GtStep{step(api.GtOpen, true, 0), step(api.GtClose, false, 51), step(api.GtHold, true, 81)}, make([]bool, 3))
	if want := []api.GtState{{Pos: 43, Charge: 4}, {Pos: 69, Charge: 12}, {Pos: 79, Charge: 15}}; e != api.OK || !slices.Equal(next, want) || !slices.Equal(moved, []api.GtMoved{{Moved: -7, Oil: 7}, {Moved: 9}, {Moved: 9}}) {
		t.Errorf("Move = %v, %v, %d", next, moved, e)
	}
}

func TestMoveErrors(t *testing.T) {
	l, wild, odd := plains(3), at(-1), api.GtStep{Order: 3}
	fine, steps := all(3, at(0)), all(3, api.GtStep{})
	for i, c := range []struct {
		states []api.GtState
		steps  []api.GtStep
		ships  int
		e      api.Errno
	}{
		{all(2, wild), all(3, odd), 3, api.ErrArg}, {all(4, wild), all(3, odd), 3, api.ErrArg}, {all(3, wild), all(2, api.GtStep{}), 3, api.ErrArg}, {all(3, wild), all(4, api.GtStep{}), 3, api.ErrArg}, {all(3, wild), steps, 2, api.ErrArg}, {all(3, wild), steps, 4, api.ErrArg}, {nil, nil, 0, api.ErrArg},
		{fine, steps, 3, api.OK}, {all(3, wild), all(3, odd), 3, api.ErrRange}, {fine, all(3, odd), 3, api.ErrArg},
		// The first gate with an error decides.
		{[]api.GtState{at(0), at(0), wild}, []api.GtStep{{}, odd, {}}, 3, api.ErrArg}, {[]api.GtState{at(0), wild, at(0)}, []api.GtStep{{}, {}, odd}, 3, api.ErrRange}, {fine, []api.GtStep{{}, {Outer: 20001}, odd}, 3, api.ErrRange}, {fine, []api.GtStep{{}, odd, {Inner: 20001}}, 3, api.ErrArg}, {fine, []api.GtStep{{}, {}, {Order: 3, Outer: 20001}}, 3, api.ErrArg},
	} {
		next, moved, e := gate.Move(l, c.states, c.steps, make([]bool, c.ships))
		if e != c.e || e != api.OK && (next != nil || moved != nil) {
			t.Errorf("%d: Move = %v, %v, %d, want %d", i, next, moved, e, c.e)
		}
	}
}

func TestDelay(t *testing.T) {
	fast := api.GtState{Bolted: true}
	after := plains(2, api.GtRule{Gate: 1, Other: 0, Lo: 100, Hi: 100})
	// Each gate may move only while the other one is shut.
	stuck := plains(2, api.GtRule{Gate: 1, Other: 0, Lo: 100, Hi: 100}, api.GtRule{Gate: 0, Other: 1, Lo: 100, Hi: 100})
	// The second gate may move only while the first one is open: once that has gone on, it is too late.
	late := plains(2, api.GtRule{Gate: 1, Other: 0, Lo: 0, Hi: 0})
	long := plains(2)
	for i := range long.Gates {
		long.Gates[i].Travel, long.Gates[i].Gravity = 5000, 1
	}
	for i, c := range []struct {
		l            api.GtSet
		states       []api.GtState
		outer, inner int
		power        bool
		want         int
		e            api.Errno
	}{
		{pair(), all(2, at(0)), 3000, 1000, false, 5, api.OK},
		{plains(1), all(1, at(100)), 0, 0, false, 0, api.OK}, {plains(1), all(1, at(99)), 51, 0, false, 1, api.OK}, {plains(1), all(1, at(10)), 51, 0, false, 1, api.OK}, {plains(1), all(1, at(9)), 51, 0, false, 2, api.OK}, {plains(1), all(1, at(9)), 50, 0, true, 2, api.OK}, {plains(1), all(1, at(9)), 50, 0, false, 0, api.ErrDown},
		{plains(3), []api.GtState{at(100), at(10), at(99)}, 51, 0, false, 1, api.OK}, {plains(3), []api.GtState{at(100), at(99), at(9)}, 51, 0, false, 2, api.OK}, {plains(3), []api.GtState{at(9), at(99), at(100)}, 51, 0, false, 2, api.OK},
		{plains(2), []api.GtState{at(0), fast}, 51, 0, true, 0, api.ErrDown}, {plains(2), []api.GtState{at(0), {Pos: 100, Bolted: true}}, 51, 0, true, 2, api.OK},
		{after, all(2, at(0)), 51, 0, false, 3, api.OK}, {after, []api.GtState{at(100), at(0)}, 51, 0, false, 2, api.OK}, {after, []api.GtState{at(0), at(100)}, 51, 0, false, 2, api.OK}, {after, []api.GtState{fast, at(0)}, 51, 0, false, 0, api.ErrDown},
		// At 81 a gate that waits slips as fast as it falls.
		{after, all(2, at(0)), 81, 0, false, 2, api.OK},
		{stuck, all(2, at(0)), 80, 0, true, 0, api.ErrDown}, {stuck, all(2, at(0)), 81, 0, true, 2, api.OK}, {stuck, all(2, at(100)), 0, 0, false, 0, api.OK}, {stuck, []api.GtState{at(100), at(0)}, 51, 0, false, 2, api.OK},
		{late, all(2, at(0)), 51, 0, false, 0, api.ErrDown}, {late, []api.GtState{at(0), at(91)}, 51, 0, false, 2, api.OK},
		{long, []api.GtState{at(3000), at(3001)}, 51, 0, false, 200, api.OK}, {long, []api.GtState{at(3001), at(2999)}, 51, 0, false, 0, api.ErrDown},
	} {
		if n, e := gate.Delay(c.l, c.states, c.outer, c.inner, c.power); n != c.want || e != c.e {
			t.Errorf("%d: Delay = %d, %d, want %d, %d", i, n, e, c.want, c.e)
		}
	}
}

// A gate that was shut can slip open while another one still closes: all have to be shut after one and the same step.
func TestDelayOfSlipping(t *testing.T) {
	l := plains(2, api.GtRule{Gate: 0, Other: 1, Lo: 100, Hi: 100})
	l.Gates[1].Drive, l.Gates[1].Speed = 500, 10
	l.Gates[0].Drive, l.Gates[0].Speed = 500, 50
	// In ten steps the second gate is driven shut; the first one slips to 10, and is driven back in two more.
	if n, e := gate.Delay(l, []api.GtState{at(100), at(0)}, -100, 0, true); n != 2 || e != api.OK {
		t.Errorf("Delay = %d, %d", n, e)
	}
	if n, e := gate.Delay(l, []api.GtState{at(100), at(100)}, -100, 0, true); n != 0 || e != api.OK {
		t.Errorf("Delay = %d, %d", n, e)
	}
}

func TestDelayErrors(t *testing.T) {
	l := plains(2)
	for i, c := range []struct {
		states       []api.GtState
		outer, inner int
		e            api.Errno
	}{
		{all(1, at(-1)), math.MaxInt, 0, api.ErrArg}, {all(3, at(-1)), math.MaxInt, 0, api.ErrArg}, {nil, 0, 0, api.ErrArg},
		{[]api.GtState{at(0), at(101)}, 0, 0, api.ErrRange}, {[]api.GtState{at(100), {Pos: 100, Charge: 1}}, 0, 0, api.ErrRange}, {all(2, at(100)), 20001, 0, api.ErrRange}, {all(2, at(100)), 0, -20001, api.ErrRange}, {all(2, at(100)), math.MinInt, 0, api.ErrRange},
	} {
		if n, e := gate.Delay(l, c.states, c.outer, c.inner, true); n != 0 || e != c.e {
			t.Errorf("%d: Delay = %d, %d, want %d", i, n, e, c.e)
		}
	}
}
