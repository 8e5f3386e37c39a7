package runoff

import (
	"barrage/api"
	"barrage/basin"
	"barrage/check"
	"barrage/height"
)

// moment is a tick of a task: what there is outside and from the rivers, and what energy costs.
type moment struct {
	outer, river int
	cost         func(energy int) int
}

// station is a task that has no error, with its devices and ticks, and the best rests of plans that are known.
type station struct {
	api.RnTask
	devices []device
	moments []moment
	rests   map[point]rest
}

// point is where a plan can be: before a tick, with so much water in the basin and in each polder, and with what is on then.
type point struct {
	tick, volume int
	filled       [api.MaxBsPolders]int
	on           choice
}

// read reads a task, or returns its error.
func read(t api.RnTask) (*station, api.Errno) {
	if _, _, e := Check(t); e != api.OK {
		return nil, e
	}
	k := &station{RnTask: t, devices: devicesOf(t), rests: map[point]rest{}}
	for i, outer := range t.Outer {
		price := t.Prices[i]
		k.moments = append(k.moments, moment{outer, t.River[i], func(energy int) int { return energy * price }})
	}
	return k, api.OK
}

// readAt reads a task, a state of it, a tick and choices, or returns the error of one of them; the first choice is what was on before.
func readAt(t api.RnTask, s api.BsState, tick int, choices ...[]bool) (*station, point, api.Errno) {
	k, e := read(t)
	if e != api.OK {
		return nil, point{}, e
	}
	if e := basin.CheckState(t.Basin, s); e != api.OK {
		return nil, point{}, e
	}
	if !check.In(tick, 0, len(k.moments)-1) {
		return nil, point{}, api.ErrNone
	}
	if !k.areChoices(choices) {
		return nil, point{}, api.ErrArg
	}
	return k, pointOf(tick, s, choiceOf(choices[0])), api.OK
}

// readPlan reads a task and a plan, or returns the error of one of them.
func readPlan(t api.RnTask, plan [][]bool) (*station, api.Errno) {
	k, e := read(t)
	if e != api.OK {
		return nil, e
	}
	if len(plan) != len(k.moments) || !k.areChoices(plan) {
		return nil, api.ErrArg
	}
	return k, api.OK
}

// areChoices reports whether each of some lists has a value for each device.
func (k *station) areChoices(l [][]bool) bool {
	for _, on := range l {
		if len(on) != len(k.devices) {
			return false
		}
	}
	return true
}

// start returns the point before the first tick.
func (k *station) start() point { return pointOf(0, k.State, choiceOf(k.On)) }

func pointOf(tick int, s api.BsState, on choice) point {
	p := point{tick: tick, volume: s.Volume, on: on}
	copy(p.filled[:], s.Filled)
	return p
}

// state returns the state of the basin at a point.
func (k *station) state(p point) api.BsState {
	return api.BsState{Volume: p.volume, Filled: append([]int(nil), p.filled[:len(k.Basin.Polders)]...)}
}

// option is a choice in a tick, and its usage.
type option struct {
	on choice
	usage
}

// options returns, in order, the choices in the tick after a point by which no sluice is on that must not be.
func (k *station) options(p point) (l []option) {
	h := head{height.Of(k.Basin.Rows, p.volume), height.Mark(k.moments[p.tick].outer)}
eachChoice:
	for on := range choices(len(k.devices)) {
		var all usage
		for i, d := range k.devices {
			u, may := h.use(d, p.on[i], on[i])
			if !may {
				continue eachChoice
			}
			all = all.plus(u)
		}
		all.out = min(all.out, api.MaxFlow)
		l = append(l, option{on, all})
	}
	return l
}

// option returns a choice in the tick after a point with its usage, or RnErrHead.
func (k *station) option(p point, on choice) (option, api.Errno) {
	for _, o := range k.options(p) {
		if o.on == on {
			return o, api.OK
		}
	}
	return option{}, api.RnErrHead
}

// cheapest returns the first of the choices with the least energy, in the tick after a point, by which at least so much is to run off; and whether there is one.
func (k *station) cheapest(p point, least int) (best option, found bool) {
	for _, o := range k.options(p) {
		if o.out >= least && (!found || o.energy < best.energy) {
			best, found = o, true
		}
	}
	return best, found
}

// next returns the point after the tick after a point, or the fault of this tick.
func (k *station) next(p point, o option) (point, api.Errno) {
	m := k.moments[p.tick]
	s, _, e := basin.Step(k.Basin, k.state(p), api.BsTick{Outer: m.outer, River: m.river, Out: o.out})
	if e != api.OK {
		return point{}, api.RnErrRoom
	}
	l := height.Of(k.Basin.Rows, s.Volume)
	switch {
	case l.Below(height.Mark(k.Low)):
		return point{}, api.RnErrLow
	case l.Above(height.Mark(k.High)):
		return point{}, api.RnErrHigh
	}
	return pointOf(p.tick+1, s, o.on), api.OK
}
