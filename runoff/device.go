package runoff

import (
	"barrage/api"
	"barrage/check"
	"barrage/height"
)

// device is a sluice or a pump of a task.
type device interface {
	// title returns its name.
	title() string
	// isStated reports whether its numbers are in their ranges.
	isStated() bool
}

type sluice api.RnSluice

type pump api.RnPump

// devicesOf returns the sluices of a task, and then its pumps.
func devicesOf(t api.RnTask) (l []device) {
	for _, s := range t.Sluices {
		l = append(l, sluice(s))
	}
	for _, p := range t.Pumps {
		l = append(l, pump(p))
	}
	return l
}

func (s sluice) title() string { return s.Name }

func (p pump) title() string { return p.Name }

func (s sluice) isStated() bool { return check.In(s.Width, 0, api.MaxBsRate) && areEnergies(s.Move) }

func (p pump) isStated() bool {
	return check.In(p.Rate, 0, api.MaxFlow) && areEnergies(p.Base, p.Lift, p.Start)
}

// head is the exact level inside, and the level outside, at the beginning of a tick.
type head struct {
	inner height.Level
	outer height.Mark
}

// falls reports whether water runs off by gravity.
func (h head) falls() bool { return h.inner.Above(h.outer) }

// flow returns what runs off in a tick by so much for each mm, rounded down.
func (h head) flow(rate int) int { return height.Flow(rate, h.inner, h.outer) }

// lift returns what it takes to lift water, by so much for each mm that the level outside is higher, rounded up.
func (h head) lift(rate int) int {
	// What flows is rounded down: its opposite is rounded up.
	return max(-h.flow(rate), 0)
}

// usage is what is to run off in a tick, and the energy that it takes.
type usage struct{ out, energy int }

func (u usage) plus(o usage) usage { return usage{u.out + o.out, u.energy + o.energy} }

// use returns the usage of a device that was on before or not, and is or not; and whether it may be: a sluice must not be on if no water falls.
func (h head) use(d device, was, is bool) (u usage, may bool) {
	may = true
	switch d := d.(type) {
	case sluice:
		if is != was {
			u.energy = d.Move
		}
		if is {
			u.out, may = h.flow(d.Width), h.falls()
		}
	case pump:
		if !is {
			break
		}
		u.out, u.energy = d.Rate, d.Base+h.lift(d.Lift)
		if !was {
			u.energy += d.Start
		}
	}
	return u, may
}
