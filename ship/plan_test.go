package ship_test

import (
	"math"
	"slices"
	"testing"

	"barrage/api"
	"barrage/ship"
)

// isPlan checks the plan by an order.
func isPlan(t *testing.T, p api.ShPort, order []int, want ...api.ShPassage) {
	t.Helper()
	if l, e := ship.Plan(p, order); !slices.Equal(l, want) || e != api.OK {
		t.Errorf("Plan by %v = %v, %d, want %v", order, l, e, want)
	}
}

// P6.4: the chapter's examples.
func TestPlan(t *testing.T) {
	isPlan(t, estuary(), []int{0, 1, 2}, first()...)
	isPlan(t, estuary(), []int{1, 0, 2}, second()...)
	isPlan(t, estuary(), []int{2, 1, 0}, second()...)
	isPlan(t, estuary(), []int{0, 2, 1}, first()...)
	isPlan(t, harbour(), nil)
	isPlan(t, harbour(), []int{})
}

// Of the passages without a fault the one with the least Start counts, of these that with the least Opening, of these that with the least Anchor.
func TestPlanTakesTheLeast(t *testing.T) {
	p := changed(harbour(boats(3, 110)...), func(p *api.ShPort) {
		p.Anchors = []api.ShAnchor{{Name: "in", Inside: true, Room: 90, Turn: 90}, {Name: "small", Room: 9, Turn: 9}, {Name: "out", Room: 10, Turn: 10}, {Name: "sea", Room: 15, Turn: 10}}
		p.Follow, p.Gap = 0, 0
	})
	isPlan(t, p, []int{0, 1, 2}, pass(110, -1), pass(112, 2), pass(114, 3))
	isPlan(t, p, []int{2, 0, 1}, pass(112, 2), pass(114, 3), pass(110, -1))
	two := changed(p, func(p *api.ShPort) { p.Openings = named(2) })
	through := func(start, anchor int) api.ShPassage { return api.ShPassage{Opening: 1, Start: start, Anchor: anchor} }
	isPlan(t, two, []int{0, 1, 2}, pass(110, -1), through(110, -1), pass(112, 2))
	// A lesser Start through another opening, with a greater Anchor, comes first.
	late := changed(two, func(p *api.ShPort) { p.Openings[0].Shut = []api.ShSpan{{From: 100, Until: 113}} })
	isPlan(t, late, []int{0, 1, 2}, through(110, -1), through(112, 2), pass(113, 3))
	// With so many held there is room at no anchorage, so that the next one is turned back, at the first that is long enough.
	full := changed(p, func(p *api.ShPort) { p.Anchors[3].Room = 9 })
	isPlan(t, full, []int{0, 1, 2}, pass(110, -1), pass(112, 2), turned(2))
	isPlan(t, full, []int{1, 2, 0}, turned(2), pass(110, -1), pass(112, 2))
}

// A ship is ready before the first level, and waits for it; one that is ready too late finds none.
func TestPlanWithinLevels(t *testing.T) {
	p := harbour(boat("a", 0), boat("b", 148), boat("c", 149))
	isPlan(t, p, []int{0, 1, 2}, pass(100, 0), pass(148, -1), turned(0))
	isPlan(t, changed(p, func(p *api.ShPort) { p.Anchors[0].Room = 9 }), []int{0, 1, 2}, turned(0), pass(148, -1), turned(0))
	end := harbour(boat("a", 199999), boat("b", 200000), boat("c", 199998))
	end.Levels.From, end.Ships[1].Pass, end.Follow = 200000-49, 1, 0
	isPlan(t, end, []int{0, 1, 2}, pass(199999, -1), turned(0), turned(0))
	isPlan(t, end, []int{1, 0, 2}, turned(0), pass(200000, -1), pass(199998, -1))
	zero := harbour(boat("a", 0), boat("b", 0))
	zero.Levels = api.Series{Values: make([]int, 6)}
	isPlan(t, zero, []int{1, 0}, pass(4, 0), pass(0, -1))
}

// Without a place to turn there is no plan; a ship that finds room to pass needs none.
func TestNoPlan(t *testing.T) {
	p := changed(harbour(boat("a", 110), boat("b", 111)), func(p *api.ShPort) { p.Anchors[0].Turn, p.Ships[1].Until = 9, 113 })
	for i, c := range []struct {
		order []int
		want  []api.ShPassage
		e     api.Errno
	}{
		{[]int{0, 1}, nil, api.ErrDown}, {[]int{1, 0}, passages(pass(115, 0), pass(111, -1)), api.OK},
	} {
		if l, e := ship.Plan(p, c.order); !slices.Equal(l, c.want) || e != c.e {
			t.Errorf("%d: Plan = %v, %d, want %v, %d", i, l, e, c.want, c.e)
		}
	}
	order, plan, e := ship.Best(p)
	if !slices.Equal(order, []int{1, 0}) || !slices.Equal(plan, passages(pass(115, 0), pass(111, -1))) || e != api.OK {
		t.Errorf("Best = %v, %v, %d", order, plan, e)
	}
	order, plan, e = ship.Best(changed(p, func(p *api.ShPort) { p.Anchors = nil }))
	if order != nil || plan != nil || e != api.ErrDown {
		t.Errorf("Best = %v, %v, %d", order, plan, e)
	}
	isPlan(t, changed(p, func(p *api.ShPort) { p.Anchors, p.Ships[1].Ready = nil, 114; p.Ships[1].Until = -1 }), []int{0, 1}, pass(110, -1), pass(114, -1))
}

func TestPlanErrors(t *testing.T) {
	for i, order := range [][]int{
		nil, {}, {0}, {0, 1}, {0, 1, 2, 3}, {0, 1, 2, 2}, {0, 1, 1}, {0, 0, 0}, {1, 2, 3}, {0, 1, 3}, {-1, 0, 1}, {0, 1, -1}, {2, 1, 1}, {math.MaxInt, 0, 1}, {math.MinInt, 0, 1}, make([]int, 1000),
	} {
		if l, e := ship.Plan(estuary(), order); l != nil || e != api.ErrArg {
			t.Errorf("%d: Plan by %v = %v, %d", i, order, l, e)
		}
	}
	// Before there is no plan, there is no order.
	p := changed(estuary(), func(p *api.ShPort) { p.Anchors = nil })
	if l, e := ship.Plan(p, []int{0, 1}); l != nil || e != api.ErrArg {
		t.Errorf("Plan = %v, %d", l, e)
	}
	if l, e := ship.Plan(p, []int{0, 1, 2}); l != nil || e != api.ErrDown {
		t.Errorf("Plan = %v, %d", l, e)
	}
	if l, e := ship.Plan(harbour(), []int{0}); l != nil || e != api.ErrArg {
		t.Errorf("Plan = %v, %d", l, e)
	}
}

// isBest checks the best order and its plan.
func isBest(t *testing.T, p api.ShPort, order []int, want ...api.ShPassage) {
	t.Helper()
	got, plan, e := ship.Best(p)
	if !slices.Equal(got, order) || !slices.Equal(plan, want) || e != api.OK {
		t.Errorf("Best = %v, %v, %d, want %v, %v", got, plan, e, order, want)
	}
	isPlan(t, p, order, want...)
}

func TestBest(t *testing.T) {
	isBest(t, estuary(), []int{1, 0, 2}, second()...)
	isBest(t, harbour(), nil)
	isBest(t, harbour(boat("a", 110)), []int{0}, pass(110, -1))
	// Without a ship in the way the first order is as good as any.
	isBest(t, harbour(boat("a", 130), boat("b", 120), boat("c", 110)), []int{0, 1, 2}, pass(130, -1), pass(120, -1), pass(110, -1))
	// All can pass in each order: what is held least is best, whoever it is.
	isBest(t, harbour(boat("a", 111), boat("b", 110)), []int{1, 0}, pass(114, 0), pass(110, -1))
	isBest(t, harbour(boat("a", 110), boat("b", 110)), []int{0, 1}, pass(110, -1), pass(114, 0))
	isBest(t, harbour(boat("a", 111), boat("b", 115), boat("c", 110)), []int{2, 0, 1}, pass(114, 0), pass(118, 0), pass(110, -1))
	// More worth, and as much holding as that takes; a ship of no worth is turned back, or makes no difference.
	one := changed(harbour(boat("a", 110), boat("b", 110)), func(p *api.ShPort) { p.Ships[1].Until = 112; p.Ships[1].Value = 0 })
	isBest(t, one, []int{0, 1}, pass(110, -1), turned(0))
	one.Ships[1].Value = 1
	isBest(t, one, []int{1, 0}, pass(114, 0), pass(110, -1))
	// Nothing is of worth: to hold least is best, and to turn one back.
	none := changed(harbour(boat("a", 112), boat("b", 110), boat("c", 111)), func(p *api.ShPort) {
		for i := range p.Ships {
			p.Ships[i].Value = 0
		}
		p.Ships[2].Until = 113
	})
	isBest(t, none, []int{1, 0, 2}, pass(114, 0), pass(110, -1), turned(0))
}
