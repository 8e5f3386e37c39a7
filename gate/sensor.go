package gate

import (
	"iter"

	"barrage/api"
	"barrage/check"
)

// The readings of a switch that say something.
const (
	switchedOff = 0
	switchedOn  = 1
)

// agrees reports whether a sensor agrees with a position, by its reading.
func agrees(s api.GtSensor, reading, pos int) bool {
	switch {
	case s.Kind == api.GtEncoder:
		// The reading, which can be any int, stands alone: nothing may be added to it.
		return check.In(reading, pos-s.Tol, pos+s.Tol)
	case reading == switchedOn:
		return pos >= s.At-s.Tol
	case reading == switchedOff:
		return pos <= s.At+s.Tol
	}
	return false
}

// agreed yields, ascending, the positions with which all sensors but Wrong of them agree.
func agreed(g api.GtGate, readings []int) iter.Seq[int] {
	return func(yield func(int) bool) {
		for pos := range g.Travel + 1 {
			with := 0
			for i, s := range g.Sensors {
				if agrees(s, readings[i], pos) {
					with++
				}
			}
			if with >= len(g.Sensors)-g.Wrong && !yield(pos) {
				return
			}
		}
	}
}

// Where returns the positions on which the sensors of a gate agree.
func Where(g api.GtGate, readings []int) (api.Span, api.Errno) {
	if e := gateError(g); e != api.OK {
		return api.Span{}, e
	}
	if len(readings) != len(g.Sensors) {
		return api.Span{}, api.ErrArg
	}
	found := api.Span{Lo: none, Hi: none}
	for pos := range agreed(g, readings) {
		if found.Lo == none {
			found.Lo = pos
		}
		found.Hi = pos
	}
	if found.Lo == none {
		return api.Span{}, api.ErrDown
	}
	return found, api.OK
}

// Sure returns the end at which a gate certainly is.
func Sure(g api.GtGate, readings []int) (int, api.Errno) {
	found, e := Where(g, readings)
	switch {
	case e != api.OK:
		return 0, e
	case found.Hi <= g.Slack:
		return api.GtOpenEnd, api.OK
	case found.Lo >= g.Travel-g.Slack:
		return api.GtShutEnd, api.OK
	}
	return api.GtNoEnd, api.OK
}

// Bolt bolts a gate, or takes its bolts away.
func Bolt(g api.GtGate, s api.GtState, on bool, readings []int) (api.GtState, api.Errno) {
	if _, _, e := check.First(
		func() (int, api.Errno) { return 0, gateError(g) },
		func() (int, api.Errno) { return 0, stateError(g, s) },
		func() (int, api.Errno) { return 0, boltError(g, s, on, readings) },
	); e != api.OK {
		return api.GtState{}, e
	}
	s.Bolted = on
	return s, api.OK
}

// boltError returns why a gate cannot be bolted, or its bolts not be taken away.
func boltError(g api.GtGate, s api.GtState, on bool, readings []int) api.Errno {
	switch {
	case !on && !s.Bolted:
		return api.ErrNone
	case !on:
		return api.OK
	case s.Bolted:
		return api.ErrTwice
	}
	end, e := Sure(g, readings)
	if e == api.OK && end == api.GtNoEnd {
		return api.ErrDown
	}
	return e
}
