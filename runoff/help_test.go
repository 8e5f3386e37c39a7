package runoff_test

import (
	"math/rand/v2"
	"reflect"
	"slices"

	"barrage/api"
	"barrage/runoff"
)

// random returns the same numbers in each run of a test.
func random() *rand.Rand { return rand.New(rand.NewPCG(7, 7)) }

// from returns a random number from lo to hi.
func from(r *rand.Rand, lo, hi int) int { return lo + r.IntN(hi-lo+1) }

func sp(lo, hi int) api.Span { return api.Span{Lo: lo, Hi: hi} }

func all[T any](n int, x T) []T { return slices.Repeat([]T{x}, n) }

// bay is the basin of chapter 4, without its polders.
func bay() api.BsBasin {
	return api.BsBasin{
		Rows: []api.BsRow{{Level: -1000, Volume: 0}, {Level: 0, Volume: 1000000}, {Level: 2000, Volume: 5000000}},
		Leak: 100, Crest: 3000, Over: 500,
	}
}

// example is the chapter's T.
func example() api.RnTask {
	return api.RnTask{
		Basin: bay(), State: api.BsState{Volume: 1000000},
		Outer: []int{-500, 500}, River: []int{60000, 60000}, Prices: []int{1, 2}, Low: -200, High: 50,
		Sluices: []api.RnSluice{{Name: "lock", Width: 100, Move: 10}},
		Pumps:   []api.RnPump{{Name: "mill", Rate: 40000, Base: 5, Lift: 1, Start: 7}},
		On:      none(),
	}
}

// The choices of the chapter's T.
func none() []bool { return []bool{false, false} }

func lock() []bool { return []bool{true, false} }

func mill() []bool { return []bool{false, true} }

func both() []bool { return []bool{true, true} }

func plan(l ...[]bool) [][]bool { return l }

// on returns a choice of devices, as a word of 0 and 1.
func on(s string) []bool {
	l := []bool{}
	for _, c := range s {
		l = append(l, c == '1')
	}
	return l
}

// pond is a task of one tick with a basin of 10 m3 for each mm, from 0 at the level 0 on, into which no water leaks, with 1000 m3 (100 mm).
func pond() api.RnTask {
	return api.RnTask{
		Basin: api.BsBasin{Rows: []api.BsRow{{}, {Level: 1000, Volume: 10000}}}, State: api.BsState{Volume: 1000},
		Outer: []int{0}, River: []int{0}, Prices: []int{1}, High: 20000,
	}
}

// with returns a task with devices that are off.
func with(t api.RnTask, sluices []api.RnSluice, pumps []api.RnPump) api.RnTask {
	t = copyTask(t)
	t.Sluices, t.Pumps, t.On = sluices, pumps, make([]bool, len(sluices)+len(pumps))
	return t
}

// changed returns a task that is changed.
func changed(t api.RnTask, change func(t *api.RnTask)) api.RnTask {
	t = copyTask(t)
	change(&t)
	return t
}

func copyState(s api.BsState) api.BsState {
	s.Filled = slices.Clone(s.Filled)
	return s
}

func copyTask(t api.RnTask) api.RnTask {
	t.Basin.Rows, t.Basin.Polders = slices.Clone(t.Basin.Rows), slices.Clone(t.Basin.Polders)
	t.State = copyState(t.State)
	t.Outer, t.River, t.Prices = slices.Clone(t.Outer), slices.Clone(t.River), slices.Clone(t.Prices)
	t.Sluices, t.Pumps, t.On = slices.Clone(t.Sluices), slices.Clone(t.Pumps), slices.Clone(t.On)
	return t
}

func copyPlan(l [][]bool) [][]bool {
	l = slices.Clone(l)
	for i := range l {
		l[i] = slices.Clone(l[i])
	}
	return l
}

func samePlan(a, b [][]bool) bool { return slices.EqualFunc(a, b, slices.Equal) }

func sameState(a, b api.BsState) bool {
	return a.Volume == b.Volume && slices.Equal(a.Filled, b.Filled)
}

func sameDone(a, b []api.RnDone) bool {
	return slices.EqualFunc(a, b, func(x, y api.RnDone) bool {
		return sameState(x.State, y.State) && x.Out == y.Out && x.Energy == y.Energy && x.Cost == y.Cost
	})
}

// question is what all functions are asked about a task.
type question struct {
	state       api.BsState
	tick, least int
	before, on  []bool
	plan        [][]bool
}

// answers is all that the functions say of a task.
type answers struct {
	part, at    int
	out, energy int
	cheapest    []bool
	takes       int
	done        []api.RnDone
	fault       api.Errno
	cost        int
	best        [][]bool
	bestCost    int
	least       []int
	errors      [7]api.Errno
}

// ask calls each function with a task.
func ask(t api.RnTask, q question) (a answers) {
	a.part, a.at, a.errors[0] = runoff.Check(t)
	a.out, a.energy, a.errors[1] = runoff.Use(t, q.state, q.tick, q.before, q.on)
	a.cheapest, a.takes, a.errors[2] = runoff.Cheapest(t, q.state, q.tick, q.before, q.least)
	a.done, a.fault, a.errors[3] = runoff.Do(t, q.plan)
	a.cost, a.errors[4] = runoff.Cost(t, q.plan)
	a.best, a.bestCost, a.errors[5] = runoff.Best(t)
	a.least, a.errors[6] = runoff.Least(t, q.plan)
	return a
}

// areZero reports whether nothing but errors is said, and where that of Check is.
func (a answers) areZero() bool {
	return reflect.DeepEqual(a, answers{part: a.part, at: a.at, errors: a.errors})
}
