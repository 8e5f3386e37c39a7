package closure

import (
	"iter"
	"slices"

	"barrage/api"
	"barrage/check"
)

// never is the tick at which gates close, and open, that are not closed.
const never = -1

// task is a task of the api that has no error, with what is read of it once.
type task struct {
	api.ClTask
	reading
	runs map[closed][]level // the runs of the basin that were done
}

// reading is what follows from a task, whatever is asked about it.
type reading struct {
	from, end int   // the ticks of the task are from the first one on, and before the second one
	last      int   // the last tick at which closing can begin
	high      []int // the histories that are high at some tick
	rise      int   // the first tick at which one of them is
	quiet     int   // the quiet tick
}

// read reads a task, or returns its error.
func read(t api.ClTask) (*task, api.Errno) {
	if _, _, e := Check(t); e != api.OK {
		return nil, e
	}
	return readRight(t), api.OK
}

// readWith reads a task, or returns its error, or that of the rules.
func readWith(t api.ClTask, r api.ClRules) (*task, api.Errno) {
	k, e := read(t)
	if e == api.OK {
		e = rulesError(r)
	}
	return k, e
}

// readRight reads a task that has no error.
func readRight(t api.ClTask) *task {
	h := t.Histories[0]
	k := &task{ClTask: t, runs: map[closed][]level{}}
	k.from, k.end = h.From, h.From+len(h.Values)
	k.last = k.end - 1 - t.Delay
	k.rise, k.quiet = k.end, k.end
	for i, h := range t.Histories {
		if tick, isHigh := first(k.from, h.Values, k.isHigh); isHigh {
			k.high = append(k.high, i)
			k.rise = min(k.rise, tick)
		}
	}
	for k.quiet > k.from && !k.anyHigh(k.quiet-1) {
		k.quiet--
	}
	return k
}

// first returns the first tick with something that is so, and whether there is one; what there is at each tick is listed, the ticks begin at from.
func first[T any](from int, l []T, is func(T) bool) (tick int, found bool) {
	at := slices.IndexFunc(l, is)
	return from + at, at >= 0
}

// isHigh reports whether a history is high with a level outside.
func (t *task) isHigh(outer int) bool { return outer > t.Limit }

// anyHigh reports whether a history is high at a tick of the task.
func (t *task) anyHigh(tick int) bool {
	return slices.ContainsFunc(t.Histories, func(h api.Series) bool { return t.isHigh(h.Values[tick-t.from]) })
}

// has reports whether there is a history with an index.
func (t *task) has(history int) bool { return check.In(history, 0, len(t.Histories)-1) }

// canBegin reports whether closing can begin at a tick.
func (t *task) canBegin(tick int) bool { return check.In(tick, t.from, t.last) }

// begins yields the ticks at which closing can begin, the last one first.
func (t *task) begins() iter.Seq[int] {
	return func(yield func(int) bool) {
		for tick := t.last; tick >= t.from; tick-- {
			if !yield(tick) {
				return
			}
		}
	}
}

// notClosed returns the plan by which the gates are not closed.
func notClosed() api.ClPlan { return api.ClPlan{Close: never, Open: never} }

// isPlan reports whether a plan is one of the task.
func (t *task) isPlan(p api.ClPlan) bool {
	return p == notClosed() || t.canBegin(p.Close) && check.In(p.Open, t.shut(p)+1, t.end)
}

// shut returns the tick at which the gates shut by a plan that closes them.
func (t *task) shut(p api.ClPlan) int { return p.Close + t.Delay }

// planFrom returns the plan from a tick at which closing can begin.
func (t *task) planFrom(tick int) api.ClPlan {
	p := api.ClPlan{Close: tick}
	p.Open = max(t.quiet, t.shut(p)+1)
	return p
}
