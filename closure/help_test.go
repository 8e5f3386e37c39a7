package closure_test

import (
	"math/rand/v2"
	"reflect"
	"slices"

	"barrage/api"
	"barrage/closure"
)

// random returns the same numbers in each run of a test.
func random() *rand.Rand { return rand.New(rand.NewPCG(5, 5)) }

// from returns a random number from lo to hi.
func from(r *rand.Rand, lo, hi int) int { return lo + r.IntN(hi-lo+1) }

func sp(lo, hi int) api.Span { return api.Span{Lo: lo, Hi: hi} }

func all[T any](n int, x T) []T { return slices.Repeat([]T{x}, n) }

// bay is the basin of chapter 4, without its polders.
func bay() api.BsBasin {
	return api.BsBasin{
		Rows: []api.BsRow{{Level: -1000, Volume: 0}, {Level: 0, Volume: 1000000}, {Level: 2000, Volume: 5000000}},
		Leak: 100, Crest: 3000, Over: 500,
	}
}

// storm is the chapter's T.
func storm() api.ClTask {
	return api.ClTask{
		Basin:     bay(),
		Histories: []api.Series{series(10, 0, 500, 1500, 2500, 1500, 500), series(10, 0, 0, 0, 0, 0, 0)},
		River:     all(6, 60000), Limit: 800, Delay: 1,
	}
}

// rules are the chapter's R.
func rules() api.ClRules { return api.ClRules{Count: 1, Early: 3} }

func series(from int, values ...int) api.Series { return api.Series{From: from, Values: values} }

func plan(at, open int) api.ClPlan { return api.ClPlan{Close: at, Open: open} }

// not is the plan not to close.
func not() api.ClPlan { return plan(-1, -1) }

// decision is that of the chapter for T and R.
func decision() api.ClDecision {
	return api.ClDecision{Plan: plan(10, 15), Peaks: []api.ClPeak{{At: 14, Level: 729}, {At: 14, Level: 82}}, Later: all(4, api.ClWitness{History: 0, At: 12})}
}

// pond is a basin of 10 m3 for each mm, from 0 at the level 0 on, into which no water leaks.
func pond() api.BsBasin {
	return api.BsBasin{Rows: []api.BsRow{{}, {Level: 1000, Volume: 10000}}}
}

// task is a task without a river, in which the gates shut at once, and the histories begin at the tick 100.
func task(b api.BsBasin, limit int, histories ...[]int) api.ClTask {
	t := api.ClTask{Basin: b, Limit: limit}
	for _, values := range histories {
		t.Histories = append(t.Histories, series(100, values...))
	}
	t.River = make([]int, len(histories[0]))
	return t
}

// changed returns a task that is changed.
func changed(t api.ClTask, change func(t *api.ClTask)) api.ClTask {
	t = copyTask(t)
	change(&t)
	return t
}

func copyTask(t api.ClTask) api.ClTask {
	t.Basin.Rows, t.Basin.Polders = slices.Clone(t.Basin.Rows), slices.Clone(t.Basin.Polders)
	t.Filled, t.River = slices.Clone(t.Filled), slices.Clone(t.River)
	t.Histories = slices.Clone(t.Histories)
	for i := range t.Histories {
		t.Histories[i].Values = slices.Clone(t.Histories[i].Values)
	}
	return t
}

func copyDecision(d api.ClDecision) api.ClDecision {
	d.Peaks, d.Later = slices.Clone(d.Peaks), slices.Clone(d.Later)
	return d
}

func sameDecision(a, b api.ClDecision) bool {
	return a.Plan == b.Plan && slices.Equal(a.Peaks, b.Peaks) && slices.Equal(a.Later, b.Later)
}

// answers is all that the functions say of a task.
type answers struct {
	part, at int
	quiet    int
	plan     api.ClPlan
	inner    []api.Span
	holds    []bool
	last     int
	allowed  bool
	decision api.ClDecision
	refused  int
	best     api.ClPlan
	not      []int
	errors   [10]api.Errno
}

// ask calls each function.
func ask(t api.ClTask, r api.ClRules, tick, history int, p api.ClPlan, d api.ClDecision) (a answers) {
	a.part, a.at, a.errors[0] = closure.Check(t)
	a.quiet, a.errors[1] = closure.Quiet(t)
	a.plan, a.errors[2] = closure.Plan(t, tick)
	a.inner, a.errors[3] = closure.Inner(t, history, p)
	a.holds, a.errors[4] = closure.Holds(t, p)
	a.last, a.errors[5] = closure.Last(t, history)
	a.allowed, a.errors[6] = closure.Allowed(t, r, tick)
	a.decision, a.errors[7] = closure.Decide(t, r)
	a.refused, a.errors[8] = closure.Accept(t, r, d)
	a.best, a.not, a.errors[9] = closure.Best(t, r)
	return a
}

// areZero reports whether nothing but an error is said, and where that of Check is.
func (a answers) areZero() bool {
	return reflect.DeepEqual(a, answers{part: a.part, at: a.at, errors: a.errors})
}
