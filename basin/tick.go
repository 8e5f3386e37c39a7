package basin

import (
	"slices"

	"barrage/api"
	"barrage/height"
)

// outcome is the state after a tick, and what flowed in it.
type outcome struct {
	state api.BsState
	flows api.BsFlows
}

// course is a basin in the course of a tick, with what came of it so far.
type course struct {
	basin api.BsBasin
	tick  api.BsTick
	outcome
}

// doTick does a tick of a basin, from a state that has no error.
func doTick(b api.BsBasin, s api.BsState, t api.BsTick) (outcome, error) {
	if e := tickError(t); e != api.OK {
		return outcome{}, fault(e)
	}
	c := course{basin: b, tick: t}
	c.state = api.BsState{Volume: s.Volume, Filled: slices.Clone(s.Filled)}
	c.flows.Taken = make([]int, len(b.Polders))
	for _, happens := range c.events() {
		if err := happens(); err != nil {
			return outcome{}, err
		}
	}
	return c.outcome, nil
}

// events returns what happens in a tick, in order.
func (c *course) events() [5]func() error {
	return [5]func() error{c.riverComes, c.runsOver, c.leaks, c.runsOff, c.floods}
}

// level returns the exact level at this place.
func (c *course) level() height.Level { return height.Of(c.basin.Rows, c.state.Volume) }

// free returns how much more is in the basin than there has to be.
func (c *course) free() int { return c.state.Volume - c.basin.Rows[0].Volume }

// grow lets the volume grow, or become less, if there is no more than there can be.
func (c *course) grow(by int) error {
	c.state.Volume += by
	if c.state.Volume > api.MaxVolume {
		return fault(api.ErrLong)
	}
	return nil
}

func (c *course) riverComes() error {
	c.flows.River = c.tick.River
	return c.grow(c.flows.River)
}

func (c *course) runsOver() error {
	c.flows.Over = max(height.Flow(c.basin.Over, height.Mark(c.tick.Outer), height.Mark(c.basin.Crest)), 0)
	return c.grow(c.flows.Over)
}

func (c *course) leaks() error {
	c.flows.Leak = max(height.Flow(c.basin.Leak, height.Mark(c.tick.Outer), c.level()), -c.free())
	return c.grow(c.flows.Leak)
}

func (c *course) runsOff() error {
	c.flows.Out = min(c.tick.Out, c.free())
	return c.grow(-c.flows.Out)
}

// floods lets water run into the polders, in order: each one sees the level that those before it leave.
func (c *course) floods() error {
	for i, p := range c.basin.Polders {
		l, sill := c.level(), height.Mark(p.Sill)
		if !l.Above(sill) {
			continue
		}
		taken := min(height.Flow(p.Take, l, sill), p.Room-c.state.Filled[i])
		c.flows.Taken[i] = taken
		c.state.Filled[i] += taken
		c.state.Volume -= taken
	}
	return nil
}
