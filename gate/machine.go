package gate

import (
	"barrage/api"
	"barrage/round"
)

// Forces are for metres, positions in cm and levels in mm.
const (
	cmOfMetre = 100
	mmOfMetre = 1000
)

// machine is a gate in a state, and the step that it is to do; all of them are without an error.
type machine struct {
	api.GtGate
	api.GtState
	api.GtStep
}

// motion is by how many cm a gate moves in a step (closing: above 0), and the oil for it.
type motion struct{ cm, oil int }

// standing returns a gate at a position, between two levels.
func standing(g api.GtGate, pos, outer, inner int) machine {
	return machine{g, api.GtState{Pos: pos}, api.GtStep{Outer: outer, Inner: inner}}
}

// own returns the own force.
func (m machine) own() int {
	last := len(m.Own) - 1
	if m.Pos == m.Travel {
		return m.Own[last]
	}
	k, left := m.Pos*last/m.Travel, m.Pos*last%m.Travel
	return round.Down(m.Own[k]*(m.Travel-left)+m.Own[k+1]*left, m.Travel)
}

// edge returns the level of the lower edge.
func (m machine) edge() int {
	return round.Down(m.Open*(m.Travel-m.Pos)+m.Shut*m.Pos, m.Travel)
}

// below returns how much of the height is below a level.
func (m machine) below(level int) int { return min(max(level-m.edge(), 0), m.Height) }

// closing returns the closing force.
func (m machine) closing() int {
	float := round.Down(m.Float*m.below(min(m.Outer, m.Inner)), mmOfMetre)
	// Water lifts a gate: this closes a flap, and opens all others.
	if m.Kind != api.GtFlap {
		float = -float
	}
	return m.own() + float + round.Down(m.Push*(m.Outer-m.Inner), mmOfMetre)
}

// friction returns the friction against any motion.
func (m machine) friction() int {
	head := max(m.Outer, m.Inner) - min(m.Outer, m.Inner)
	wet := m.below(max(m.Outer, m.Inner))
	return m.Seal + round.Up(m.Slide*head*wet, mmOfMetre*mmOfMetre)
}

// follow returns how far a gate goes towards an end that is so many cm away, with a force towards it.
func (m machine) follow(force, left int) motion {
	rub := m.friction()
	switch {
	case force > rub:
		return motion{cm: min(m.Gravity, left)}
	case m.Power && force+m.Drive > rub:
		return m.driven(min(m.Speed, left))
	}
	return motion{}
}

// driven returns how far a gate is driven, at most so many cm.
func (m machine) driven(cm int) motion {
	if m.Use > 0 {
		cm = min(cm, m.Charge*cmOfMetre/m.Use)
	}
	return motion{cm: cm, oil: round.Up(cm*m.Use, cmOfMetre)}
}

// closes is what the order to close does.
func (m machine) closes() motion { return m.follow(m.closing(), m.Travel-m.Pos) }

// opens is what the order to open does.
func (m machine) opens() motion {
	back := m.follow(-m.closing(), m.Pos)
	return motion{cm: -back.cm, oil: back.oil}
}

// holds is what the order to hold does: the gate slips if the brake does not hold it.
func (m machine) holds() motion {
	force, held := m.closing(), m.Brake+m.friction()
	switch {
	case force > held:
		return motion{cm: min(m.Gravity, m.Travel-m.Pos)}
	case -force > held:
		return motion{cm: -min(m.Gravity, m.Pos)}
	}
	return motion{}
}

// stays is what a gate does whose bolts hold it.
func (m machine) stays() motion { return motion{} }

// action returns what the gate does by the order.
func (m machine) action() func(machine) motion {
	if m.Bolted {
		return machine.stays
	}
	switch m.Order {
	case api.GtClose:
		return machine.closes
	case api.GtOpen:
		return machine.opens
	default:
		return machine.holds
	}
}

// refusal returns why the order is refused (OK: it is not), if the gate is locked for this reason (OK: it is not).
func (m machine) refusal(lock api.Errno) api.Errno {
	switch {
	case m.Order == api.GtHold:
		return api.OK
	case m.Bolted:
		return api.GtErrBolt
	}
	return lock
}

// step does the step of a gate that is locked for a reason (OK: it is not), and returns the state after it, and what came of it.
func (m machine) step(lock api.Errno) (api.GtState, api.GtMoved) {
	refused := m.refusal(lock)
	if refused != api.OK {
		m.Order = api.GtHold
	}
	done := m.action()(m)
	s := m.GtState
	s.Pos += done.cm
	s.Charge -= done.oil
	if m.Power {
		s.Charge = min(s.Charge+m.Pump, m.Capacity)
	}
	return s, api.GtMoved{Refused: refused, Moved: done.cm, Oil: done.oil}
}
