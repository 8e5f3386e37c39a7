package ship_test

import (
	"math"
	"strings"
	"testing"

	"barrage/api"
	"barrage/probe"
	"barrage/ship"
)

// checkCase changes estuary, and says what Check returns then.
type checkCase struct {
	change   func(p *api.ShPort)
	part, at int
	e        api.Errno
}

func testCheck(t *testing.T, l []checkCase) {
	t.Helper()
	for i, c := range l {
		p := changed(estuary(), c.change)
		if part, at, e := ship.Check(p); part != c.part || at != c.at || e != c.e {
			t.Errorf("%d: Check = %d, %d, %d, want %d, %d, %d", i, part, at, e, c.part, c.at, c.e)
		}
		if c.e != api.OK {
			testFirst(t, p, c.e)
		}
	}
}

// testFirst checks that the error of a port comes before all others, with zero values.
func testFirst(t *testing.T, p api.ShPort, e api.Errno) {
	t.Helper()
	for i, q := range []question{
		{tick: 10, order: []int{0, 1, 2}, plan: first(), after: second()},
		{ship: -1, opening: -1, tick: -1, order: []int{7}, plan: passages(pass(-9, -9))},
	} {
		a := ask(p, q)
		for f, got := range a.errors {
			if got != e {
				t.Errorf("%d: error %d of function %d, want %d", i, got, f, e)
			}
		}
		if !a.areZero() {
			t.Errorf("%d: a result is not zero: %v", i, a)
		}
	}
}

// P6.1
func TestCheckNumbers(t *testing.T) {
	p := estuary()
	look := func() (part, at int, e api.Errno) { return ship.Check(p) }
	field := func(name string, at *int, lo, hi int) probe.Number {
		return probe.Field(name, at, lo, hi, api.ErrRange)
	}
	p.Openings = append(p.Openings, api.ShOpening{Name: "side", Shut: []api.ShSpan{{From: 5, Until: 9}, {From: 70, Until: 80}}})
	for i := range p.Openings {
		o := &p.Openings[i]
		probe.Ends(t, 2, i, look, field("Width", &o.Width, 0, 5000), field("Sill", &o.Sill, -20000, 20000))
		for j := range o.Shut {
			s := &o.Shut[j]
			probe.Ends(t, 2, i, look, field("From", &s.From, 0, s.Until), field("Until", &s.Until, s.From, 200000))
		}
	}
	for i := range p.Anchors {
		a := &p.Anchors[i]
		probe.Ends(t, 3, i, look, field("Room", &a.Room, 0, 5000), field("Turn", &a.Turn, 0, 5000))
	}
	for i := range p.Ships {
		s := &p.Ships[i]
		probe.Ends(t, 4, i, look,
			field("Length", &s.Length, 1, 500), field("Beam", &s.Beam, 0, 5000), field("Draught", &s.Draught, 0, 25000), field("Ready", &s.Ready, 0, 200000),
			field("Pass", &s.Pass, 1, 50), field("Until", &s.Until, -1, 200000), field("Value", &s.Value, 0, 1000),
		)
	}
	for i := range p.Levels.Values {
		probe.Ends(t, 5, 0, look, field("level", &p.Levels.Values[i], -20000, 20000))
	}
	probe.Ends(t, 5, 0, look,
		field("From", &p.Levels.From, 0, 200000-59), field("Keel", &p.Keel, 0, 25000),
		field("Follow", &p.Follow, 0, 50), field("Gap", &p.Gap, 0, 50), field("Margin", &p.Margin, 0, 50),
	)
	p.Levels.Values = []int{7}
	probe.Ends(t, 5, 0, look, field("From", &p.Levels.From, 0, 200000))
}

// named returns so many openings with names.
func named(n int) (l []api.ShOpening) {
	for i := range n {
		l = append(l, api.ShOpening{Name: string(rune('a' + i))})
	}
	return l
}

// anchored returns so many anchorages with names.
func anchored(n int) (l []api.ShAnchor) {
	for _, o := range named(n) {
		l = append(l, api.ShAnchor{Name: o.Name})
	}
	return l
}

// boats returns so many boats with names, that are ready at a tick.
func boats(n, ready int) (l []api.ShShip) {
	for _, o := range named(n) {
		l = append(l, boat(o.Name, ready))
	}
	return l
}

// How much there can be of all, and which names there can be.
func TestCheckRight(t *testing.T) {
	testCheck(t, []checkCase{
		{func(p *api.ShPort) {}, 0, 0, api.OK},
		{func(p *api.ShPort) { p.Openings = named(3) }, 0, 0, api.OK},
		{func(p *api.ShPort) { p.Anchors = nil }, 0, 0, api.OK},
		{func(p *api.ShPort) { p.Anchors = anchored(4) }, 0, 0, api.OK},
		{func(p *api.ShPort) { p.Ships = nil }, 0, 0, api.OK},
		{func(p *api.ShPort) { p.Ships = boats(5, 9) }, 0, 0, api.OK},
		{func(p *api.ShPort) { p.Openings[0].Shut = nil }, 0, 0, api.OK},
		{func(p *api.ShPort) { p.Openings[0].Shut = all(4, api.ShSpan{From: 7, Until: 7}) }, 0, 0, api.OK},
		{func(p *api.ShPort) { p.Openings[0].Shut = []api.ShSpan{{From: 9, Until: 30}, {From: 0, Until: 20}} }, 0, 0, api.OK},
		{func(p *api.ShPort) { p.Levels.Values = make([]int, 1) }, 0, 0, api.OK},
		{func(p *api.ShPort) { p.Levels.Values = make([]int, 144) }, 0, 0, api.OK},
		{func(p *api.ShPort) { p.Anchors[0].Name, p.Ships[0].Name = "main", "main" }, 0, 0, api.OK},
		{func(p *api.ShPort) { p.Ships[2].Name = "z" + strings.Repeat("-9", 11) + "a" }, 0, 0, api.OK},
		{func(p *api.ShPort) { p.Ships[0].Until = 3 }, 0, 0, api.OK},
	})
}

func TestCheckParts(t *testing.T) {
	testCheck(t, []checkCase{
		{func(p *api.ShPort) { p.Openings = nil }, 1, 0, api.ErrLong},
		{func(p *api.ShPort) { p.Openings = named(4) }, 1, 0, api.ErrLong},
		{func(p *api.ShPort) { p.Anchors = anchored(5) }, 1, 0, api.ErrLong},
		{func(p *api.ShPort) { p.Ships = boats(6, 9) }, 1, 0, api.ErrLong},
		{func(p *api.ShPort) { p.Openings[0].Name = "" }, 2, 0, api.ErrForm},
		{func(p *api.ShPort) { p.Openings = named(3); p.Openings[2].Name = "B" }, 2, 2, api.ErrForm},
		{func(p *api.ShPort) { p.Openings = named(3); p.Openings[2].Name = "a" }, 2, 2, api.ErrTwice},
		{func(p *api.ShPort) { p.Openings = named(3); p.Openings[2].Width = -1 }, 2, 2, api.ErrRange},
		{func(p *api.ShPort) { p.Openings[0].Shut = make([]api.ShSpan, 5) }, 2, 0, api.ErrLong},
		{func(p *api.ShPort) { p.Openings[0].Shut = append(p.Openings[0].Shut, api.ShSpan{From: 8, Until: 7}) }, 2, 0, api.ErrRange},
		{func(p *api.ShPort) { p.Openings[0].Shut[0] = api.ShSpan{From: 200001, Until: 200001} }, 2, 0, api.ErrRange},
		{func(p *api.ShPort) { p.Openings[0].Shut[0] = api.ShSpan{From: -1, Until: -1} }, 2, 0, api.ErrRange},
		{func(p *api.ShPort) { p.Anchors[1].Name = "9" }, 3, 1, api.ErrForm},
		{func(p *api.ShPort) { p.Anchors[1].Name = "road" }, 3, 1, api.ErrTwice},
		{func(p *api.ShPort) { p.Anchors[1].Room = 5001 }, 3, 1, api.ErrRange},
		{func(p *api.ShPort) { p.Ships[2].Name = "the tanker" }, 4, 2, api.ErrForm},
		{func(p *api.ShPort) { p.Ships[2].Name = strings.Repeat("a", 25) }, 4, 2, api.ErrForm},
		{func(p *api.ShPort) { p.Ships[2].Name = "bulk" }, 4, 2, api.ErrTwice},
		{func(p *api.ShPort) { p.Ships[2].Until = -2 }, 4, 2, api.ErrRange},
		{func(p *api.ShPort) { p.Levels.Values = nil }, 5, 0, api.ErrLong},
		{func(p *api.ShPort) { p.Levels.Values = make([]int, 145) }, 5, 0, api.ErrLong},
		{func(p *api.ShPort) { p.Levels.From = -1 }, 5, 0, api.ErrRange},
		{func(p *api.ShPort) { p.Levels.From = math.MaxInt }, 5, 0, api.ErrRange},
		{func(p *api.ShPort) { p.Gap = 51 }, 5, 0, api.ErrRange},
	})
}

// All of one part comes before the next one; the first element with an error decides, and of its errors the one that is named first.
func TestCheckOrder(t *testing.T) {
	testCheck(t, []checkCase{
		{func(p *api.ShPort) { p.Ships = boats(6, 9); p.Openings[0].Name = "" }, 1, 0, api.ErrLong},
		{func(p *api.ShPort) { p.Anchors = anchored(5); p.Levels.Values = nil }, 1, 0, api.ErrLong},
		{func(p *api.ShPort) { p.Openings = named(3); p.Openings[2].Name, p.Openings[1].Sill = "", 20001 }, 2, 1, api.ErrRange},
		{func(p *api.ShPort) { p.Openings = named(3); p.Openings[2].Name, p.Openings[2].Width = "a", -1 }, 2, 2, api.ErrTwice},
		{func(p *api.ShPort) { p.Openings = named(2); p.Openings[0].Name, p.Openings[1].Name = "", "" }, 2, 0, api.ErrForm},
		{func(p *api.ShPort) { p.Openings[0].Name, p.Openings[0].Width = "A", -1 }, 2, 0, api.ErrForm},
		{func(p *api.ShPort) { p.Openings[0].Width, p.Openings[0].Shut = -1, make([]api.ShSpan, 5) }, 2, 0, api.ErrRange},
		{func(p *api.ShPort) { p.Openings[0].Shut = all(5, api.ShSpan{From: -1}) }, 2, 0, api.ErrLong},
		{func(p *api.ShPort) { p.Openings[0].Sill, p.Anchors[0].Name = 20001, "" }, 2, 0, api.ErrRange},
		{func(p *api.ShPort) { p.Anchors[0].Turn, p.Anchors[1].Name = -1, "" }, 3, 0, api.ErrRange},
		{func(p *api.ShPort) { p.Anchors[1] = api.ShAnchor{Name: "road", Room: -1} }, 3, 1, api.ErrTwice},
		{func(p *api.ShPort) { p.Anchors[1] = api.ShAnchor{Name: "ROAD", Room: -1} }, 3, 1, api.ErrForm},
		{func(p *api.ShPort) { p.Anchors[1].Room, p.Ships[0].Name = -1, "" }, 3, 1, api.ErrRange},
		{func(p *api.ShPort) { p.Ships[1].Pass, p.Ships[2].Name = 0, "" }, 4, 1, api.ErrRange},
		{func(p *api.ShPort) { p.Ships[1].Pass, p.Ships[1].Name = 0, "bulk" }, 4, 1, api.ErrTwice},
		{func(p *api.ShPort) { p.Ships[1].Pass, p.Ships[1].Name = 0, "-" }, 4, 1, api.ErrForm},
		{func(p *api.ShPort) { p.Ships[2].Length, p.Levels.Values = 0, nil }, 4, 2, api.ErrRange},
		{func(p *api.ShPort) { p.Levels.Values, p.Keel = nil, -1 }, 5, 0, api.ErrLong},
	})
}

// Which plans are no passages for all ships, or not well formed: with one of them ErrArg comes before all errors of the other arguments.
func TestPlansThatAreNone(t *testing.T) {
	least, most := math.MinInt, math.MaxInt
	right := func() []api.ShPassage { return passages(pass(10, -1), pass(13, 1), turned(0)) }
	plans := [][]api.ShPassage{nil, {}, right()[:2], append(right(), turned(0))}
	for _, x := range []api.ShPassage{
		// Who waits has an anchorage, and nobody else.
		pass(10, 0), pass(9, 0), pass(11, -1), pass(0, 1), pass(200000, -1),
		// Numbers beyond their ends.
		{Opening: 1, Start: 10, Anchor: -1}, {Opening: -2, Start: 10, Anchor: -1}, {Opening: -2, Start: -1, Anchor: 0}, {Opening: most, Start: 10, Anchor: -1}, {Opening: least, Start: -1, Anchor: 0},
		pass(-1, -1), pass(200001, 0), pass(most, 0), pass(least, -1), pass(11, 2), pass(11, -2), pass(9, -2), pass(11, most), pass(11, least),
		turned(2), turned(-2), turned(most), {Opening: -1, Start: 0, Anchor: 0}, {Opening: -1, Start: -2, Anchor: 0}, {Opening: -1, Start: 10, Anchor: -1}, {Opening: -1, Start: 11, Anchor: 0},
	} {
		plans = append(plans, passages(x, right()[1], right()[2]))
	}
	for i, plan := range plans {
		for _, q := range []question{{tick: 10, plan: plan, after: right()}, {opening: 1, tick: -1, plan: plan, after: plan}} {
			a := ask(estuary(), q)
			for f, e := range a.errors[4:] {
				if e != api.ErrArg {
					t.Errorf("%d: %v: error %d of function %d", i, plan, e, f+4)
				}
			}
			if a.faults != nil || a.value != 0 || a.held != 0 || a.in != 0 || a.free != 0 || a.again != nil || a.turned != nil {
				t.Errorf("%d: %v: a result is not zero: %v", i, plan, a)
			}
		}
		if l, e := ship.Turned(estuary(), right(), plan); l != nil || e != api.ErrArg {
			t.Errorf("%d: %v: Turned = %v, %d", i, plan, l, e)
		}
	}
}

// Plans that are well formed, whatever is wrong with them.
func TestPlansThatAreFormed(t *testing.T) {
	for i, x := range []api.ShPassage{pass(10, -1), pass(0, -1), pass(11, 0), pass(11, 1), pass(200000, 1), turned(-1), turned(0), turned(1)} {
		plan := passages(x, pass(12, -1), turned(0))
		a := ask(estuary(), question{tick: 10, plan: plan, after: plan})
		if a.errors[4] != api.OK || a.errors[6] != api.OK || a.errors[7] != api.OK || a.errors[8] == api.ErrArg || a.errors[9] != api.OK {
			t.Errorf("%d: %v", i, a)
		}
	}
}
