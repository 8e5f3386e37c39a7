package runoff

import "barrage/api"

// run is what comes of a plan: the points up to the first tick that has a fault, what happens in each tick between them, and this fault.
type run struct {
	points []point
	done   []api.RnDone
	fault  api.Errno
}

// run does the ticks of a plan.
func (k *station) run(plan [][]bool) run {
	p := k.start()
	r := run{points: []point{p}}
	for _, on := range plan {
		after, o, fault := k.do(p, choiceOf(on))
		if fault != api.OK {
			r.fault = fault
			break
		}
		r.points = append(r.points, after)
		r.done = append(r.done, api.RnDone{State: k.state(after), Out: o.out, Energy: o.energy, Cost: k.moments[p.tick].cost(o.energy)})
		p = after
	}
	return r
}

// do does the tick after a point with a choice, and returns the point after it and the option that it is, or the fault.
func (k *station) do(p point, on choice) (after point, o option, fault api.Errno) {
	if o, fault = k.option(p, on); fault == api.OK {
		after, fault = k.next(p, o)
	}
	return after, o, fault
}

// cost returns what the ticks of a run cost.
func (r run) cost() (sum int) {
	for _, d := range r.done {
		sum += d.Cost
	}
	return sum
}

// bounds are what the options that were tried in a tick tell of the others, as a basin is monotone (P4.9): the level is too high with so little to run off, or less, and too low with so much, or more.
type bounds struct{ little, much int }

// allow reports whether the level may be right with so much to run off.
func (b bounds) allow(out int) bool { return b.little < out && out < b.much }

// learn takes note of the fault that a tick has with so much to run off, which was allowed.
func (b *bounds) learn(out int, fault api.Errno) {
	switch fault {
	case api.RnErrHigh, api.RnErrRoom:
		b.little = out
	case api.RnErrLow:
		b.much = out
	}
}

// probe tries the most that can run off in the tick after a point: where the level is too high even then, no option has to be tried.
func (k *station) probe(p point, l []option) bounds {
	most := option{}
	for _, o := range l {
		most.out = max(most.out, o.out)
	}
	known := bounds{-1, api.MaxFlow + 1}
	_, fault := k.next(p, most)
	known.learn(most.out, fault)
	return known
}

// rest is the best rest of a plan from a point on: whether there is one, its first option, and what all of it costs.
type rest struct {
	found bool
	first option
	cost  int
}

// rest returns the best rest of a plan from a point on.
func (k *station) rest(p point) rest {
	if p.tick == len(k.moments) {
		return rest{found: true}
	}
	if r, isKnown := k.rests[p]; isKnown {
		return r
	}
	var best rest
	l := k.options(p)
	known := k.probe(p, l)
	for _, o := range l {
		cost := k.moments[p.tick].cost(o.energy)
		// The ticks behind it cost 0 at least, and of equal plans the first one is the best.
		if !known.allow(o.out) || best.found && cost >= best.cost {
			continue
		}
		after, fault := k.next(p, o)
		if fault != api.OK {
			known.learn(o.out, fault)
			continue
		}
		if r := k.rest(after); r.found && (!best.found || cost+r.cost < best.cost) {
			best = rest{true, o, cost + r.cost}
		}
	}
	k.rests[p] = best
	return best
}

// best returns the best plan, what it costs, and whether there is one.
func (k *station) best() (plan [][]bool, cost int, found bool) {
	p := k.start()
	all := k.rest(p)
	if !all.found {
		return nil, 0, false
	}
	for p.tick < len(k.moments) {
		first := k.rest(p).first
		plan = append(plan, first.on.list(len(k.devices)))
		p, _ = k.next(p, first)
	}
	return plan, all.cost, true
}
