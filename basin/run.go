package basin

import (
	"errors"
	"iter"
	"strconv"

	"barrage/api"
	"barrage/height"
)

// fault is an error of api, as an error of the language.
type fault api.Errno

func (f fault) Error() string { return "error " + strconv.Itoa(int(f)) }

// end is the error that ended a run, with the tick in which it did.
type end struct {
	tick int
	err  error
}

func (e end) Error() string { return "tick " + strconv.Itoa(e.tick) + ": " + e.err.Error() }

func (e end) Unwrap() error { return e.err }

// errno returns the error of api that is in an error of the language (OK: none is).
func errno(err error) api.Errno {
	var f fault
	if errors.As(err, &f) {
		return api.Errno(f)
	}
	return api.OK
}

// outcomes yields what comes of ticks, which are done one after the other; the first error ends the run. The basin and the state have none.
func outcomes(b api.BsBasin, s api.BsState, l []api.BsTick) iter.Seq2[outcome, error] {
	return func(yield func(outcome, error) bool) {
		for i, t := range l {
			o, err := doTick(b, s, t)
			if err != nil {
				yield(outcome{}, end{tick: i, err: err})
				return
			}
			if !yield(o, nil) {
				return
			}
			s = o.state
		}
	}
}

// run returns what comes of ticks, or the error of Run.
func run(b api.BsBasin, s api.BsState, l []api.BsTick) ([]outcome, api.Errno) {
	if e := CheckState(b, s); e != api.OK {
		return nil, e
	}
	if len(l) > api.MaxBsTicks {
		return nil, api.ErrLong
	}
	var done []outcome
	for o, err := range outcomes(b, s, l) {
		if err != nil {
			return nil, errno(err)
		}
		done = append(done, o)
	}
	return done, api.OK
}

// exceeds reports whether the level after a tick is above a limit.
func (o outcome) exceeds(b api.BsBasin, limit int) bool {
	return height.Of(b.Rows, o.state.Volume).Above(height.Mark(limit))
}

// keeps reports whether the level stays within a limit in each of some ticks, which are done without an error.
func keeps(b api.BsBasin, s api.BsState, l []api.BsTick, limit int) bool {
	for o, err := range outcomes(b, s, l) {
		if err != nil || o.exceeds(b, limit) {
			return false
		}
	}
	return true
}

// changed returns ticks each of which is changed in the same way.
func changed(l []api.BsTick, change func(api.BsTick) api.BsTick) []api.BsTick {
	var after []api.BsTick
	for _, t := range l {
		after = append(after, change(t))
	}
	return after
}
