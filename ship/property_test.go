package ship_test

import (
	"math/rand/v2"
	"slices"
	"testing"

	"barrage/api"
	"barrage/probe"
	"barrage/ship"
)

// somePort returns a random port without an error, in which ships are in each other's way, at ticks up to 70.
func somePort(r *rand.Rand) api.ShPort {
	p := api.ShPort{Keel: r.IntN(1500), Follow: r.IntN(4), Gap: r.IntN(6), Margin: r.IntN(5)}
	p.Levels.From = r.IntN(6)
	level, slope := from(r, -500, 500), from(r, -120, 120)
	for range from(r, 20, 60) {
		p.Levels.Values = append(p.Levels.Values, level)
		level = min(max(level+slope+from(r, -100, 100), -1500), 1500)
		if r.IntN(12) == 0 {
			slope = -slope
		}
	}
	p.Openings = named(max(from(r, -1, 3), 1))
	for i := range p.Openings {
		o := &p.Openings[i]
		o.Width, o.Sill = from(r, 300, 400), from(r, -10500, -10000)
		for range r.IntN(5) * r.IntN(2) {
			at := r.IntN(60)
			o.Shut = append(o.Shut, api.ShSpan{From: at, Until: at + r.IntN(16)})
		}
	}
	p.Anchors = anchored(r.IntN(5))
	for i := range p.Anchors {
		a := &p.Anchors[i]
		a.Inside, a.Room, a.Turn = r.IntN(2) == 0, r.IntN(500), 300-r.IntN(2)*r.IntN(300)
	}
	for _, o := range named(max(r.IntN(6), r.IntN(6))) {
		p.Ships = append(p.Ships, someShip(r, o.Name))
	}
	return p
}

func someShip(r *rand.Rand, name string) api.ShShip {
	s := api.ShShip{
		Name: name, Inside: r.IntN(2) == 0, Length: from(r, 1, 250), Beam: from(r, 100, 330), Draught: from(r, 6000, 9500),
		Ready: r.IntN(30), Pass: from(r, 1, 7), Until: -1, Value: r.IntN(4) * 10,
	}
	if r.IntN(3) == 0 {
		s.Until = s.Ready + from(r, -1, 20)
		s.Until = max(s.Until, 0)
	}
	return s
}

// somePlan returns a random plan of a port that is well formed; ships mostly pass soon after they are ready.
func somePlan(r *rand.Rand, p api.ShPort) (plan []api.ShPassage) {
	for _, s := range p.Ships {
		x := turned(r.IntN(len(p.Anchors)+1) - 1)
		if late := from(r, -1, 25) * r.IntN(2); r.IntN(4) > 0 && (late <= 0 || len(p.Anchors) > 0) {
			x = api.ShPassage{Opening: r.IntN(len(p.Openings)), Start: max(s.Ready+late, 0), Anchor: -1}
			if x.Start > s.Ready {
				x.Anchor = r.IntN(len(p.Anchors))
			}
		}
		plan = append(plan, x)
	}
	return plan
}

// soundPlan returns a random plan without faults, if it finds one: somePlan with the ships that have faults turned back, or done by an order.
func soundPlan(r *rand.Rand, p api.ShPort) (plan []api.ShPassage, found bool) {
	if r.IntN(2) == 0 {
		plan, e := ship.Plan(p, r.Perm(len(p.Ships)))
		return plan, e == api.OK
	}
	plan = somePlan(r, p)
	for range 2 {
		faults, _ := ship.Judge(p, plan)
		for _, f := range faults {
			anchor := slices.IndexFunc(p.Anchors, func(a api.ShAnchor) bool {
				return a.Inside == p.Ships[f.Ship].Inside && a.Turn >= p.Ships[f.Ship].Length
			})
			plan[f.Ship] = turned(anchor)
		}
	}
	faults, _ := ship.Judge(p, plan)
	return plan, len(faults) == 0
}

// changedPlan returns a plan in which a number is another one.
func changedPlan(r *rand.Rand, plan []api.ShPassage) []api.ShPassage {
	plan = slices.Clone(plan)
	if len(plan) > 0 {
		x := &plan[r.IntN(len(plan))]
		*[]*int{&x.Opening, &x.Start, &x.Anchor}[r.IntN(3)] += from(r, -2, 2)
	}
	return plan
}

// reference answers by the definitions, tick by tick.
type reference struct{ api.ShPort }

// end is behind all ticks at which there is something in a random port.
func (p reference) end() int { return 90 }

func (p reference) isShut(opening, tick int) bool {
	for _, s := range p.Openings[opening].Shut {
		if tick >= s.From && tick < s.Until {
			return true
		}
	}
	return false
}

func (p reference) depth(opening, tick int) (depth int, known bool) {
	at := tick - p.Levels.From
	if at < 0 || at >= len(p.Levels.Values) {
		return 0, false
	}
	return p.Levels.Values[at] - p.Openings[opening].Sill, true
}

func (p reference) alone(index, opening, start int) api.Errno {
	s := p.Ships[index]
	switch {
	case start < s.Ready:
		return api.ShErrEarly
	case s.Until >= 0 && start > s.Until:
		return api.ShErrLate
	case s.Beam > p.Openings[opening].Width:
		return api.ShErrWide
	}
	for i := range s.Pass {
		if d, known := p.depth(opening, start+i); !known || d < s.Draught+p.Keel {
			return api.ShErrDeep
		}
	}
	for i := range s.Pass + p.Margin {
		if p.isShut(opening, start+i) {
			return api.ShErrShut
		}
	}
	return api.OK
}

func (p reference) meet(i, j int, plan []api.ShPassage) bool {
	a, b := plan[i], plan[j]
	if a.Opening == -1 || a.Opening != b.Opening {
		return false
	}
	if b.Start < a.Start {
		a, b, i, j = b, a, j, i
	}
	gap := p.Gap
	if p.Ships[i].Inside == p.Ships[j].Inside {
		gap = p.Follow
	}
	return b.Start < a.Start+p.Ships[i].Pass+gap
}

// isHeldAt reports whether a ship is held at an anchorage at a tick.
func (p reference) isHeldAt(i, anchor, tick int, plan []api.ShPassage) bool {
	x := plan[i]
	return x.Opening >= 0 && x.Start > p.Ships[i].Ready && x.Anchor == anchor && p.Ships[i].Ready <= tick && tick < x.Start
}

// hasRoom reports whether a ship that is held has room, with those of some others that are held as well.
func (p reference) hasRoom(i int, others []int, plan []api.ShPassage) bool {
	a := p.Anchors[plan[i].Anchor]
	for tick := range p.end() {
		if !p.isHeldAt(i, plan[i].Anchor, tick, plan) {
			continue
		}
		sum := p.Ships[i].Length
		for _, o := range others {
			if p.isHeldAt(o, plan[i].Anchor, tick, plan) {
				sum += p.Ships[o].Length
			}
		}
		if sum > a.Room {
			return false
		}
	}
	return a.Inside == p.Ships[i].Inside
}

// faults returns those of a ship, that is looked at after some others.
func (p reference) faults(i int, others []int, plan []api.ShPassage) (l []api.ShFault) {
	x, s := plan[i], p.Ships[i]
	if x.Opening == -1 {
		if x.Anchor == -1 || p.Anchors[x.Anchor].Inside != s.Inside || s.Length > p.Anchors[x.Anchor].Turn {
			l = append(l, fault(api.ShErrTurn, i))
		}
		return l
	}
	if e := p.alone(i, x.Opening, x.Start); e != api.OK {
		l = append(l, fault(e, i))
	}
	for _, o := range others {
		if p.meet(i, o, plan) {
			l = append(l, fault(api.ShErrMeet, i))
			break
		}
	}
	if x.Start > s.Ready && !p.hasRoom(i, others, plan) {
		l = append(l, fault(api.ShErrRoom, i))
	}
	return l
}

// indices returns those of n ships.
func indices(n int) (l []int) {
	for i := range n {
		l = append(l, i)
	}
	return l
}

func (p reference) judge(plan []api.ShPassage) (l []api.ShFault) {
	for i := range p.Ships {
		l = append(l, p.faults(i, indices(i), plan)...)
	}
	return l
}

func (p reference) isFormed(plan []api.ShPassage) bool {
	if len(plan) != len(p.Ships) {
		return false
	}
	for i, x := range plan {
		switch {
		case x.Opening < -1, x.Opening >= len(p.Openings), x.Anchor < -1, x.Anchor >= len(p.Anchors):
			return false
		case x.Opening == -1 && x.Start != -1, x.Opening >= 0 && (x.Start < 0 || x.Start > api.MaxTick):
			return false
		case x.Opening >= 0 && x.Anchor == -1 && x.Start > p.Ships[i].Ready, x.Opening >= 0 && x.Anchor >= 0 && x.Start <= p.Ships[i].Ready:
			return false
		}
	}
	return true
}

// next gives a ship the first passage without a fault after some others, which begins after a tick.
func (p reference) next(i int, others []int, after int, plan []api.ShPassage) bool {
	for start := after + 1; start < p.end(); start++ {
		for opening := range p.Openings {
			for anchor := -1; anchor < len(p.Anchors); anchor++ {
				plan[i] = api.ShPassage{Opening: opening, Start: start, Anchor: anchor}
				isHeld := start > p.Ships[i].Ready
				if isHeld == (anchor >= 0) && len(p.faults(i, others, plan)) == 0 {
					return true
				}
			}
		}
	}
	for anchor := range p.Anchors {
		plan[i] = turned(anchor)
		if len(p.faults(i, others, plan)) == 0 {
			return true
		}
	}
	return false
}

// fill gives each ship of an order its passage, after some others.
func (p reference) fill(order, others []int, after int, plan []api.ShPassage) ([]api.ShPassage, api.Errno) {
	plan, others = slices.Clone(plan), slices.Clone(others)
	for _, i := range order {
		if !p.next(i, others, after, plan) {
			return nil, api.ErrDown
		}
		others = append(others, i)
	}
	return plan, api.OK
}

func (p reference) plan(order []int) ([]api.ShPassage, api.Errno) {
	return p.fill(order, nil, -1, make([]api.ShPassage, len(p.Ships)))
}

func (p reference) worth(plan []api.ShPassage) (value, held int) {
	for i, x := range plan {
		if x.Opening >= 0 {
			value, held = value+p.Ships[i].Value, held+x.Start-p.Ships[i].Ready
		}
	}
	return value, held
}

// permutations returns all orders of some numbers, the first one first if these ascend.
func permutations(l []int) [][]int {
	if len(l) == 0 {
		return [][]int{nil}
	}
	var all [][]int
	for i, x := range l {
		for _, rest := range permutations(slices.Delete(slices.Clone(l), i, i+1)) {
			all = append(all, append([]int{x}, rest...))
		}
	}
	return all
}

func (p reference) best() (order []int, plan []api.ShPassage, e api.Errno) {
	e = api.ErrDown
	var value, held int
	for _, o := range permutations(indices(len(p.Ships))) {
		l, e1 := p.plan(o)
		v, h := p.worth(l)
		if e1 == api.OK && (e != api.OK || v > value || v == value && h < held) {
			order, plan, e, value, held = o, l, api.OK, v, h
		}
	}
	return order, plan, e
}

func (p reference) in(plan []api.ShPassage, opening, tick int) int {
	for i, x := range plan {
		if x.Opening == opening && x.Start <= tick && tick < x.Start+p.Ships[i].Pass {
			return i
		}
	}
	return -1
}

func (p reference) isFree(plan []api.ShPassage, opening, tick int) bool {
	for i, x := range plan {
		if x.Opening == opening && x.Start <= tick && tick < x.Start+p.Ships[i].Pass+p.Margin {
			return false
		}
	}
	return true
}

func (p reference) replan(plan []api.ShPassage, now int) ([]api.ShPassage, api.Errno) {
	var kept, others []int
	for i, x := range plan {
		if x.Opening >= 0 && x.Start <= now {
			kept = append(kept, i)
		} else {
			others = append(others, i)
		}
	}
	return p.fill(others, kept, now, plan)
}

// faultName returns what a fault is called here.
func faultName(e api.Errno) string {
	if e == api.OK {
		return "right"
	}
	return []string{"early", "late", "wide", "deep", "shut", "meet", "room", "turn"}[e-api.ShErrEarly]
}

// P6.2 by the definition.
func TestFitsByDefinition(t *testing.T) {
	r := random()
	counts := probe.Counts{}
	for range 4000 {
		p := somePort(r)
		ref := reference{p}
		for i := range p.Ships {
			for range 20 {
				opening, start := r.IntN(len(p.Openings)), max(0, p.Ships[i].Ready+from(r, -3, 40))
				want := ref.alone(i, opening, start)
				if why, e := ship.Fits(p, i, opening, start); why != want || e != api.OK {
					t.Fatalf("%v: Fits of %d through %d at %d = %d, %d, want %d", p, i, opening, start, why, e, want)
				}
				counts.Note(faultName(want), true)
			}
		}
	}
	counts.Least(t, 500, "early", "late", "wide", "deep", "shut", "right")
}

// P6.3 by the definitions.
func TestJudgeByDefinition(t *testing.T) {
	r := random()
	counts := probe.Counts{}
	for range 30000 {
		p := somePort(r)
		plan := somePlan(r, p)
		if r.IntN(3) == 0 {
			plan = changedPlan(r, plan)
		}
		ref := reference{p}
		faults, e := ship.Judge(p, plan)
		value, held, e1 := ship.Worth(p, plan)
		if !ref.isFormed(plan) {
			counts.Note("not formed", true)
			if faults != nil || e != api.ErrArg || value != 0 || held != 0 || e1 != api.ErrArg {
				t.Fatalf("%v: Judge of %v = %v, %d; Worth = %d, %d, %d", p, plan, faults, e, value, held, e1)
			}
			continue
		}
		want, wantE := ref.judge(plan), api.OK
		v, h := ref.worth(plan)
		if len(want) > 0 {
			v, h, wantE = 0, 0, api.ErrDown
		}
		if !slices.Equal(faults, want) || e != api.OK || value != v || held != h || e1 != wantE {
			t.Fatalf("%v: Judge of %v = %v, %d, want %v; Worth = %d, %d, %d, want %d, %d", p, plan, faults, e, want, value, held, e1, v, h)
		}
		for _, f := range want {
			counts.Note(faultName(f.Error), true)
		}
		counts.Note("none", len(want) == 0 && value > 0)
		counts.Note("held", held > 0)
	}
	counts.Least(t, 200, "not formed", "early", "late", "wide", "deep", "shut", "meet", "room", "turn", "none", "held")
}

// P6.4 by the definitions.
func TestPlanByDefinition(t *testing.T) {
	r := random()
	counts := probe.Counts{}
	for range 4000 {
		p := somePort(r)
		order := r.Perm(len(p.Ships))
		want, wantE := reference{p}.plan(order)
		if plan, e := ship.Plan(p, order); !slices.Equal(plan, want) || e != wantE {
			t.Fatalf("%v: Plan by %v = %v, %d, want %v, %d", p, order, plan, e, want, wantE)
		}
		counts.Note("none", wantE == api.ErrDown)
		for _, x := range want {
			counts.Note("at once", x.Opening >= 0 && x.Anchor < 0)
			counts.Note("held", x.Opening >= 0 && x.Anchor >= 0)
			counts.Note("held elsewhere", x.Opening >= 0 && x.Anchor > 1)
			counts.Note("another opening", x.Opening > 0)
			counts.Note("turned back", x.Opening < 0)
		}
	}
	counts.Least(t, 200, "none", "at once", "held", "held elsewhere", "another opening", "turned back")
}

func TestBestByDefinition(t *testing.T) {
	r := random()
	counts := probe.Counts{}
	for range 400 {
		p := somePort(r)
		want, plan, wantE := reference{p}.best()
		if order, l, e := ship.Best(p); !slices.Equal(order, want) || !slices.Equal(l, plan) || e != wantE {
			t.Fatalf("%v: Best = %v, %v, %d, want %v, %v, %d", p, order, l, e, want, plan, wantE)
		}
		counts.Note("none", wantE != api.OK)
		counts.Note("the first order", wantE == api.OK && slices.IsSorted(want))
		counts.Note("another order", !slices.IsSorted(want))
	}
	counts.Least(t, 30, "none", "the first order", "another order")
}

// P6.5 by the definitions.
func TestInAndFreeByDefinition(t *testing.T) {
	r := random()
	counts := probe.Counts{}
	for range 6000 {
		p := somePort(r)
		plan := somePlan(r, p)
		ref := reference{p}
		opening := r.IntN(len(p.Openings))
		for range 10 {
			tick := r.IntN(70)
			want := ref.in(plan, opening, tick)
			if i, e := ship.In(p, plan, opening, tick); i != want || e != api.OK {
				t.Fatalf("%v: In by %v through %d at %d = %d, %d, want %d", p, plan, opening, tick, i, e, want)
			}
			at := tick
			for !ref.isFree(plan, opening, at) {
				at++
			}
			if got, e := ship.Free(p, plan, opening, tick); got != at || e != api.OK {
				t.Fatalf("%v: Free by %v of %d from %d = %d, %d, want %d", p, plan, opening, tick, got, e, at)
			}
			counts.Note("nobody", want == -1)
			counts.Note("the first ship", want == 0)
			counts.Note("a later ship", want > 0)
			counts.Note("at once", at == tick)
			counts.Note("later", at > tick)
		}
	}
	counts.Least(t, 500, "nobody", "the first ship", "a later ship", "at once", "later")
}

// P6.6 by the definitions.
func TestReplanByDefinition(t *testing.T) {
	r := random()
	counts := probe.Counts{}
	for range 6000 {
		p := somePort(r)
		plan, other, now := somePlan(r, p), somePlan(r, p), r.IntN(45)
		if sound, found := soundPlan(r, p); found && r.IntN(2) == 0 {
			plan = sound
		}
		want, wantE := reference{p}.replan(plan, now)
		if l, e := ship.Replan(p, plan, now); !slices.Equal(l, want) || e != wantE {
			t.Fatalf("%v: Replan of %v at %d = %v, %d, want %v, %d", p, plan, now, l, e, want, wantE)
		}
		counts.Note("none", wantE != api.OK)
		counts.Note("another one", wantE == api.OK && !slices.Equal(plan, want))
		counts.Note("the same", len(plan) > 1 && slices.Equal(plan, want))
		var lost []int
		for i := len(plan) - 1; i >= 0; i-- {
			if plan[i].Opening >= 0 && other[i].Opening < 0 {
				lost = append(lost, i)
			}
		}
		if l, e := ship.Turned(p, plan, other); !slices.Equal(l, lost) || e != api.OK {
			t.Fatalf("%v: Turned from %v to %v = %v, %d, want %v", p, plan, other, l, e, lost)
		}
		counts.Note("lost", len(lost) > 1)
	}
	counts.Least(t, 200, "none", "another one", "the same", "lost")
}
