package ship_test

import (
	"math"
	"math/rand/v2"
	"reflect"
	"slices"
	"testing"

	"barrage/api"
	"barrage/probe"
	"barrage/ship"
)

// planned returns a random port with ships, and a plan without faults.
func planned(r *rand.Rand) (p api.ShPort, plan []api.ShPassage) {
	for {
		p = somePort(r)
		if plan, found := soundPlan(r, p); found && len(plan) > 0 {
			return p, plan
		}
	}
}

// inside returns the ships that are in an opening at a tick.
func inside(p api.ShPort, plan []api.ShPassage, opening, tick int) (l []int) {
	for i, x := range plan {
		if x.Opening == opening && x.Start <= tick && tick < x.Start+p.Ships[i].Pass {
			l = append(l, i)
		}
	}
	return l
}

// shutSoon reports whether an opening is shut at a tick, or will be in less than Margin ticks.
func shutSoon(p api.ShPort, opening, tick int) bool {
	for later := tick; later == tick || later < tick+p.Margin; later++ {
		if (reference{p}).isShut(opening, later) {
			return true
		}
	}
	return false
}

// P6.7
func TestSoundPlans(t *testing.T) {
	r := random()
	counts := probe.Counts{}
	for range 6000 {
		p, plan := planned(r)
		for tick := range (reference{p}).end() {
			for opening := range p.Openings {
				l := inside(p, plan, opening, tick)
				if len(l) > 1 || len(l) > 0 && shutSoon(p, opening, tick) {
					t.Fatalf("%v: by %v the ships %v are in %d at %d", p, plan, l, opening, tick)
				}
				counts.Note("passes", len(l) > 0)
				counts.Note("is shut", shutSoon(p, opening, tick))
			}
			for i, a := range p.Anchors {
				sum, many := 0, 0
				for j, x := range plan {
					if x.Opening >= 0 && x.Anchor == i && p.Ships[j].Ready <= tick && tick < x.Start {
						sum, many = sum+p.Ships[j].Length, many+1
						if a.Inside != p.Ships[j].Inside {
							t.Fatalf("%v: by %v the ship %d is held at %d", p, plan, j, i)
						}
					}
				}
				if sum > a.Room {
					t.Fatalf("%v: by %v there are %d m at %d at the tick %d", p, plan, sum, i, tick)
				}
				counts.Note("several are held", many > 1)
			}
		}
	}
	counts.Least(t, 100, "passes", "is shut", "several are held")
}

// reordered returns a port and a plan in which the ships are in another order.
func reordered(p api.ShPort, plan []api.ShPassage, order []int) (api.ShPort, []api.ShPassage) {
	var ships []api.ShShip
	var l []api.ShPassage
	for _, i := range order {
		ships, l = append(ships, p.Ships[i]), append(l, plan[i])
	}
	p.Ships = ships
	return p, l
}

// P6.8: a plan by an order has no faults, and no ship can begin earlier behind those before it.
func TestNoShipIsEarlier(t *testing.T) {
	r := random()
	counts := probe.Counts{}
	for range 1000 {
		p := somePort(r)
		order := r.Perm(len(p.Ships))
		plan, e := ship.Plan(p, order)
		if e != api.OK {
			continue
		}
		if faults, e := ship.Judge(p, plan); len(faults) > 0 || e != api.OK {
			t.Fatalf("%v: Judge of the plan by %v, %v = %v, %d", p, order, plan, faults, e)
		}
		for n := range order {
			q, l := reordered(p, plan, order[:n+1])
			last := l[n]
			if last.Opening < 0 {
				last.Start = (reference{p}).end()
			}
			for start := q.Ships[n].Ready; start < last.Start; start++ {
				for opening := range p.Openings {
					for anchor := -1; anchor < len(p.Anchors); anchor++ {
						l[n] = api.ShPassage{Opening: opening, Start: start, Anchor: anchor}
						if faults, e := ship.Judge(q, l); e == api.OK && len(faults) == 0 {
							t.Fatalf("%v: by %v the ship %d does %v, and can do %v", p, order, order[n], plan[order[n]], l[n])
						}
					}
				}
			}
			counts.Note("at once", last.Start == q.Ships[n].Ready)
			counts.Note("held", last.Start > q.Ships[n].Ready && last.Opening >= 0)
			counts.Note("turned back", last.Opening < 0)
		}
	}
	counts.Least(t, 100, "at once", "held", "turned back")
}

// P6.8: what the ships behind it do, or whether there are any, makes no difference to a ship.
func TestShipsBehind(t *testing.T) {
	r := random()
	counts := probe.Counts{}
	for range 3000 {
		p := somePort(r)
		order := r.Perm(len(p.Ships))
		plan, e := ship.Plan(p, order)
		if e != api.OK || len(order) == 0 {
			continue
		}
		n := r.IntN(len(order))
		front, l := reordered(p, plan, order[:n])
		if got, e := ship.Plan(front, indices(n)); !slices.Equal(got, l) || e != api.OK {
			t.Fatalf("%v: Plan by %v = %v, of the first %d %v, %d", p, order, plan, n, got, e)
		}
		other := copyPort(p)
		for _, i := range order[n:] {
			other.Ships[i] = someShip(r, other.Ships[i].Name)
		}
		got, e := ship.Plan(other, order)
		if e != api.OK {
			continue
		}
		for _, i := range order[:n] {
			if got[i] != plan[i] {
				t.Fatalf("%v: Plan by %v = %v, with other ships from %d on %v", p, order, plan, n, got)
			}
		}
		counts.Note("the same", n > 1)
		counts.Note("others", !slices.Equal(got, plan))
	}
	counts.Least(t, 200, "the same", "others")
}

// P6.9
func TestNoOrderIsBetter(t *testing.T) {
	r := random()
	counts := probe.Counts{}
	for range 250 {
		p := somePort(r)
		order, plan, e := ship.Best(p)
		value, held := 0, 0
		if e == api.OK {
			byOrder, e1 := ship.Plan(p, order)
			v, h, e2 := ship.Worth(p, plan)
			if !slices.Equal(byOrder, plan) || e1 != api.OK || e2 != api.OK {
				t.Fatalf("%v: Best = %v, %v; Plan = %v, %d; Worth: %d", p, order, plan, byOrder, e1, e2)
			}
			value, held = v, h
		}
		for _, o := range permutations(indices(len(p.Ships))) {
			l, e1 := ship.Plan(p, o)
			if e1 != api.OK {
				counts.Note("no plan by it", e == api.OK)
				continue
			}
			v, h, _ := ship.Worth(p, l)
			isBefore := slices.Compare(o, order) < 0
			if e != api.OK || v > value || v == value && (h < held || h == held && isBefore) {
				t.Fatalf("%v: Best = %v, %d, with %d, %d; by %v there are %d, %d", p, order, e, value, held, o, v, h)
			}
			counts.Note("worth less", v < value)
			counts.Note("held longer", v == value && h > held)
			counts.Note("as good", v == value && h == held && !slices.Equal(o, order))
		}
	}
	counts.Least(t, 200, "no plan by it", "worth less", "held longer", "as good")
}

// wasIn reports whether a ship is in an opening at a tick, or was in the Margin ticks before it.
func wasIn(p api.ShPort, plan []api.ShPassage, opening, tick int) bool {
	for before := max(tick-p.Margin, 0); before <= tick; before++ {
		if i, _ := ship.In(p, plan, opening, before); i >= 0 {
			return true
		}
	}
	return false
}

// P6.10
func TestFreeToShut(t *testing.T) {
	r := random()
	counts := probe.Counts{}
	for range 6000 {
		p, plan := planned(r)
		opening, tick := r.IntN(len(p.Openings)), r.IntN(60)
		at, e := ship.Free(p, plan, opening, tick)
		if e != api.OK || at < tick || wasIn(p, plan, opening, at) {
			t.Fatalf("%v: Free by %v of %d from %d = %d, %d", p, plan, opening, tick, at, e)
		}
		for before := tick; before < at; before++ {
			if !wasIn(p, plan, opening, before) {
				t.Fatalf("%v: Free by %v of %d from %d = %d, and not %d", p, plan, opening, tick, at, before)
			}
		}
		counts.Note("later", at > tick)
		next := api.MaxTick
		for _, x := range plan {
			if x.Opening == opening && x.Start >= at {
				next = min(next, x.Start)
			}
		}
		shut := changed(p, func(p *api.ShPort) {
			p.Openings[opening].Shut = append(p.Openings[opening].Shut, api.ShSpan{From: at, Until: next})
		})
		if len(shut.Openings[opening].Shut) > api.MaxShSpans {
			continue
		}
		if faults, e := ship.Judge(shut, plan); len(faults) > 0 || e != api.OK {
			t.Fatalf("%v: %v has the faults %v, %d if %d is shut from %d to %d", p, plan, faults, e, opening, at, next)
		}
		counts.Note("until a ship", next < api.MaxTick)
		counts.Note("between ships", next < api.MaxTick && at > tick)
	}
	counts.Least(t, 100, "later", "until a ship", "between ships")
}

// P6.11
func TestUnderWay(t *testing.T) {
	r := random()
	counts := probe.Counts{}
	for range 6000 {
		p, now := somePort(r), r.IntN(40)
		plan := somePlan(r, p)
		again, e := ship.Replan(p, plan, now)
		hasBegun, areReady := false, false
		for i, x := range plan {
			begins := x.Opening >= 0 && x.Start <= now
			if begins && e == api.OK && again[i] != x {
				t.Fatalf("%v: Replan of %v at %d = %v", p, plan, now, again)
			}
			if !begins && e == api.OK && again[i].Opening >= 0 && again[i].Start <= now {
				t.Fatalf("%v: Replan of %v at %d = %v", p, plan, now, again)
			}
			hasBegun, areReady = hasBegun || begins, areReady || p.Ships[i].Ready <= now
			counts.Note("kept", begins && e == api.OK)
			counts.Note("changed", !begins && e == api.OK && again[i] != x)
		}
		if hasBegun || areReady {
			continue
		}
		want, wantE := ship.Plan(p, indices(len(plan)))
		if !slices.Equal(again, want) || e != wantE {
			t.Fatalf("%v: Replan of %v at %d = %v, %d; Plan = %v, %d", p, plan, now, again, e, want, wantE)
		}
		counts.Note("nothing has begun", len(plan) > 1 && e == api.OK)
	}
	counts.Least(t, 100, "kept", "changed", "nothing has begun")
}

// copyQuestion copies the lists of a question.
func copyQuestion(q question) question {
	q.order, q.plan, q.after = slices.Clone(q.order), slices.Clone(q.plan), slices.Clone(q.after)
	return q
}

// largest is a port with as much as there can be of all, in which the ships are in each other's way.
func largest() api.ShPort {
	p := api.ShPort{Openings: named(3), Anchors: anchored(4), Ships: boats(5, 0), Levels: api.Series{From: 200000 - 143, Values: all(144, 20000)}, Follow: 50, Gap: 50, Margin: 50}
	for i := range p.Openings {
		p.Openings[i].Sill, p.Openings[i].Shut = 20000-i, all(4, api.ShSpan{From: 0, Until: 200000 - 60})
	}
	for i := range p.Anchors {
		p.Anchors[i].Room, p.Anchors[i].Turn = 5000, 5000
	}
	for i := range p.Ships {
		p.Ships[i].Pass, p.Ships[i].Length, p.Ships[i].Value = 50, 500, 1000
	}
	return p
}

// P6.12: any arguments are accepted, and not modified.
func TestAnyArguments(t *testing.T) {
	least, most := math.MinInt, math.MaxInt
	ports := []api.ShPort{
		{}, estuary(), largest(), harbour(), harbour(boats(5, 110)...), shutAt(3, api.ShSpan{From: 100, Until: 120}),
		changed(estuary(), func(p *api.ShPort) { p.Anchors = nil }), changed(estuary(), func(p *api.ShPort) { p.Levels.From = most }),
		changed(estuary(), func(p *api.ShPort) { p.Openings[0].Shut[0] = api.ShSpan{From: least, Until: most} }),
		changed(estuary(), func(p *api.ShPort) { p.Ships[1].Pass, p.Ships[1].Ready = most, least }),
		changed(estuary(), func(p *api.ShPort) { p.Levels.Values[3], p.Margin = least, most }), {Openings: make([]api.ShOpening, 3), Ships: make([]api.ShShip, 5)},
	}
	wild := passages(pass(most, 0), pass(least, -1), api.ShPassage{Opening: most, Start: least, Anchor: most})
	questions := []question{
		{}, {order: []int{0, 1, 2}, plan: first(), after: second()}, {order: []int{2, 1, 0}, plan: second(), after: first()}, {order: []int{most, least, 0}, plan: wild, after: wild},
		{order: []int{4, 3, 2, 1, 0}, plan: all(5, turned(0)), after: all(5, pass(200000, 0))}, {order: []int{}, plan: passages(), after: passages()}, {order: make([]int, 5), plan: all(5, pass(0, 0)), after: all(5, turned(-1))},
		{order: []int{0}, plan: passages(pass(110, -1)), after: passages(turned(0))}, {order: []int{4, 0, 3, 1, 2}, plan: all(5, pass(199990, 3)), after: all(5, turned(3))},
	}
	for _, p := range ports {
		for _, q := range questions {
			for _, x := range []int{least, -1, 0, 1, 11, 110, 199999, 200000, 200001, most} {
				q.ship, q.opening, q.tick = x, x, x
				for range 2 {
					p1, q1 := copyPort(p), copyQuestion(q)
					ask(p, q)
					if !reflect.DeepEqual(p, p1) || !reflect.DeepEqual(q, q1) {
						t.Fatalf("arguments changed: %v, %v", p, q)
					}
					q.ship, q.opening = 0, 0
				}
			}
		}
	}
}

// The greatest numbers: all ships wait from the tick 0 on, and through each opening one of them can pass, when this opens.
func TestLargest(t *testing.T) {
	p := largest()
	order, plan, e := ship.Best(p)
	want := passages(pass(199940, 0), api.ShPassage{Opening: 1, Start: 199940, Anchor: 0}, api.ShPassage{Opening: 2, Start: 199940, Anchor: 0}, turned(0), turned(0))
	if !slices.Equal(order, indices(5)) || !slices.Equal(plan, want) || e != api.OK {
		t.Errorf("Best = %v, %v, %d", order, plan, e)
	}
	value, held, e := ship.Worth(p, want)
	if value != 3000 || held != 3*199940 || e != api.OK {
		t.Errorf("Worth = %d, %d, %d", value, held, e)
	}
}

// spoil changes each number in the lists of answers.
func (a answers) spoil() {
	for _, l := range [][]api.ShPassage{a.plan, a.best, a.again} {
		for i := range l {
			l[i] = pass(7777, 7777)
		}
	}
	for _, l := range [][]int{a.order, a.turned} {
		for i := range l {
			l[i] = 7777
		}
	}
	for i := range a.faults {
		a.faults[i].Ship = 7777
	}
}

// P6.12: results are new memory, and nothing is kept between calls.
func TestNewMemory(t *testing.T) {
	for _, plan := range [][]api.ShPassage{first(), second(), passages(pass(10, -1), pass(12, -1), pass(15, -1))} {
		p, q := estuary(), question{tick: 11, order: []int{0, 1, 2}, plan: plan, after: first()}
		before, kept := copyPort(p), copyQuestion(q)
		want := ask(p, q)
		ask(p, q).spoil()
		if again := ask(p, q); !reflect.DeepEqual(again, want) || !reflect.DeepEqual(p, before) || !reflect.DeepEqual(q, kept) {
			t.Errorf("a result shares memory with an argument: %v, %v", again, want)
		}
	}
}
