package runoff_test

import (
	"fmt"
	"math"
	"math/rand/v2"
	"reflect"
	"slices"
	"testing"

	"barrage/api"
	"barrage/basin"
	"barrage/probe"
	"barrage/runoff"
)

// someLarge returns a random task of up to all ticks and devices that there can be.
func someLarge(r *rand.Rand) api.RnTask {
	return kinds()[r.IntN(4)].some(r, from(r, 2, 6), from(r, 1, 4))
}

// solved returns a random task that has a good plan, its best plan, and a random good one.
func solved(r *rand.Rand) (k api.RnTask, best, good [][]bool) {
	for {
		k = someLarge(r)
		if good, _, can := someGood(r, k); can {
			best, _, e := runoff.Best(k)
			if e == api.OK {
				return k, best, good
			}
		}
	}
}

// fewest returns the least cost of a good plan, and whether there is one: for each state that can be reached, with what is on then, what it costs to get there.
func (t reference) fewest() (cost int, found bool) {
	type place struct {
		s    api.BsState
		on   []bool
		cost int
	}
	places := map[string]place{"": {t.State, t.On, 0}}
	for tick := range t.Outer {
		next := map[string]place{}
		for _, p := range places {
			for _, on := range choices(len(t.On)) {
				d, fault := t.do(p.s, tick, p.on, on)
				key := fmt.Sprint(d.State, on)
				if known, isKnown := next[key]; fault == api.OK && (!isKnown || p.cost+d.Cost < known.cost) {
					next[key] = place{d.State, on, p.cost + d.Cost}
				}
			}
		}
		places = next
	}
	for _, p := range places {
		if !found || p.cost < cost {
			cost, found = p.cost, true
		}
	}
	return cost, found
}

// P7.8
func TestNoPlanCostsLess(t *testing.T) {
	r := random()
	counts := probe.Counts{}
	for range 2000 {
		k, best, good := solved(r)
		_, least, _ := runoff.Best(k)
		l, fault := reference{k}.run(best)
		sum := 0
		for _, d := range l {
			sum += d.Cost
		}
		if fault != api.OK || sum != least {
			t.Fatalf("%v: Best = %v, %d, with the fault %d and the cost %d", k, best, least, fault, sum)
		}
		cost, e := runoff.Cost(k, good)
		if e != api.OK || cost < least {
			t.Fatalf("%v: Best = %v, %d; %v costs %d, %d", k, best, least, good, cost, e)
		}
		counts.Note("less", cost > least && least > 0)
		counts.Note("the same", cost == least)
		counts.Note("much", len(k.Outer) == api.MaxRnTicks && len(k.On) == 4)
	}
	counts.Least(t, 100, "less", "the same", "much")
}

// P7.8: by all states that can be reached.
func TestNoPlanAtAll(t *testing.T) {
	r := random()
	counts := probe.Counts{}
	for i := range 200 {
		size := [][2]int{{6, 2}, {6, 3}, {5, 3}, {4, 4}}[i%4]
		k := kinds()[r.IntN(4)].some(r, size[0], size[1])
		want, found := reference{k}.fewest()
		if _, cost, e := runoff.Best(k); cost != want || (e == api.OK) != found || !found && e != api.ErrDown {
			t.Fatalf("%v: Best costs %d, %d, want %d, %v", k, cost, e, want, found)
		}
		counts.Note("none", !found)
		counts.Note("some", found && want > 0)
	}
	counts.Least(t, 20, "none", "some")
}

// P7.9
func TestEachPartIsBest(t *testing.T) {
	r := random()
	counts := probe.Counts{}
	for range 1500 {
		k, best, good := solved(r)
		for _, plan := range [][][]bool{best, good} {
			l, _, _ := runoff.Do(k, plan)
			least, e := runoff.Least(k, plan)
			if e != api.OK || len(least) != len(plan)+1 || least[len(plan)] != 0 {
				t.Fatalf("%v: Least along %v = %v, %d", k, plan, least, e)
			}
			rest := 0
			for tick := len(plan) - 1; tick >= 0; tick-- {
				rest += l[tick].Cost
				if least[tick] > l[tick].Cost+least[tick+1] || least[tick] > rest || least[tick] < 0 {
					t.Fatalf("%v: Least along %v = %v", k, plan, least)
				}
				counts.Note("less", least[tick] < l[tick].Cost+least[tick+1])
			}
		}
		l, _, _ := runoff.Do(k, best)
		least, _ := runoff.Least(k, best)
		for tick := range best {
			if least[tick] != l[tick].Cost+least[tick+1] {
				t.Fatalf("%v: Least along the best plan %v = %v", k, best, least)
			}
			counts.Note("paid", l[tick].Cost > 0)
		}
	}
	counts.Least(t, 200, "less", "paid")
}

// P7.10
func TestLevelsAreKept(t *testing.T) {
	r := random()
	counts := probe.Counts{}
	for range 2000 {
		k, best, good := solved(r)
		for _, plan := range [][][]bool{best, good} {
			l, fault, e := runoff.Do(k, plan)
			if fault != api.OK || e != api.OK || len(l) != len(plan) {
				t.Fatalf("%v: Do of %v = %v, %d, %d", k, plan, l, fault, e)
			}
			var ticks []api.BsTick
			for i, d := range l {
				ticks = append(ticks, api.BsTick{Outer: k.Outer[i], River: k.River[i], Out: d.Out})
				at, e := basin.Level(k.Basin, d.State.Volume)
				if e != api.OK || at.Lo < k.Low || at.Hi > k.High {
					t.Fatalf("%v: the level after %d by %v is %v", k, i, plan, at)
				}
				counts.Note("at Low", at.Lo == k.Low)
				counts.Note("at High", at.Hi == k.High)
			}
			states, _, e := basin.Run(k.Basin, k.State, ticks)
			if e != api.OK {
				t.Fatalf("%v: Run of %v: %d", k, plan, e)
			}
			for i, s := range states {
				if !sameState(s, l[i].State) {
					t.Fatalf("%v: after %d by %v there is %v, by Run %v", k, i, plan, l[i].State, s)
				}
				counts.Note("polders", i > 0 && !slices.Equal(s.Filled, k.State.Filled))
			}
		}
	}
	counts.Least(t, 50, "at Low", "at High", "polders")
}

// P7.11
func TestNoChoiceIsCheaper(t *testing.T) {
	r := random()
	counts := probe.Counts{}
	for i := range 10000 {
		kind := kinds()[i%4]
		k := kind.some(r, 2, from(r, 1, 4))
		s, tick, before, other := kind.someState(r, k.Basin), r.IntN(2), someChoice(r, k), someChoice(r, k)
		least := r.IntN(kind.flow)
		on, energy, e := runoff.Cheapest(k, s, tick, before, least)
		otherOut, otherEnergy, otherE := runoff.Use(k, s, tick, before, other)
		does := otherE == api.OK && otherOut >= least
		if e != api.OK {
			if does {
				t.Fatalf("%v: Cheapest for %d: %d, with %v there are %d", k, least, e, other, otherOut)
			}
			counts.Note("none", true)
			continue
		}
		out, takes, e := runoff.Use(k, s, tick, before, on)
		if e != api.OK || out < least || takes != energy || does && otherEnergy < energy {
			t.Fatalf("%v: Cheapest for %d = %v, %d; Use = %d, %d, %d; of %v %d, %d", k, least, on, energy, out, takes, e, other, otherOut, otherEnergy)
		}
		lesser := r.IntN(least + 1)
		if _, n, e := runoff.Cheapest(k, s, tick, before, lesser); e != api.OK || n > energy {
			t.Fatalf("%v: Cheapest for %d takes %d, for %d %d, %d", k, least, energy, lesser, n, e)
		}
		counts.Note("dearer", does && otherEnergy > energy)
		counts.Note("as cheap", does && otherEnergy == energy && !slices.Equal(on, other))
	}
	counts.Least(t, 100, "none", "dearer", "as cheap")
}

// P7.12: windows of a level outside that is in its span at each tick.
func TestWindowsHold(t *testing.T) {
	r := random()
	counts := probe.Counts{}
	for range 2000 {
		var spans []api.Span
		level := from(r, -30, 30)
		for range r.IntN(8) {
			lo := from(r, -40, 40)
			spans = append(spans, sp(lo, lo+r.IntN(20)))
		}
		sure, possible, e := runoff.Windows(spans, level)
		if e != api.OK || !slices.IsSorted(sure) || !slices.IsSorted(possible) {
			t.Fatalf("Windows of %v for %d = %v, %v, %d", spans, level, sure, possible, e)
		}
		for i, s := range spans {
			for outer := s.Lo; outer <= s.Hi; outer++ {
				runsOff := level > outer
				isSure, isPossible := slices.Contains(sure, i), slices.Contains(possible, i)
				if isSure && !runsOff || runsOff && !isPossible {
					t.Fatalf("Windows of %v for %d = %v, %v; outside there are %d", spans, level, sure, possible, outer)
				}
				counts.Note("sure", isSure)
				counts.Note("only possible", isPossible && !isSure)
				counts.Note("not", !isPossible)
			}
		}
	}
	counts.Least(t, 1000, "sure", "only possible", "not")
}

// P7.12: a sluice is on in a plan only in ticks that are possible for the level before them.
func TestWindowsOfPlans(t *testing.T) {
	r := random()
	counts := probe.Counts{}
	for range 1500 {
		k, best, good := solved(r)
		var spans []api.Span
		for _, outer := range k.Outer {
			spans = append(spans, sp(outer-r.IntN(3), outer+r.IntN(3)))
		}
		for _, plan := range [][][]bool{best, good} {
			l, _, _ := runoff.Do(k, plan)
			s := k.State
			for tick, on := range plan {
				at, _ := basin.Level(k.Basin, s.Volume)
				_, possible, e := runoff.Windows(spans, at.Hi)
				isOn := slices.Contains(on[:len(k.Sluices)], true)
				if e == api.OK && isOn && !slices.Contains(possible, tick) {
					t.Fatalf("%v: in %v a sluice is on in %d, with %v inside", k, plan, tick, at)
				}
				s = l[tick].State
				counts.Note("on", isOn)
				counts.Note("not possible", e == api.OK && len(k.Sluices) > 0 && !slices.Contains(possible, tick))
			}
		}
	}
	counts.Least(t, 500, "on", "not possible")
}

// P7.13
func TestMoreDevices(t *testing.T) {
	r := random()
	counts := probe.Counts{}
	changes := []struct {
		name string
		do   func(k *api.RnTask)
	}{
		{"pump", func(k *api.RnTask) {
			if len(k.Pumps) < api.MaxRnPumps {
				k.Pumps, k.On = append(k.Pumps, kinds()[0].somePump(r, "more")), append(k.On, false)
			}
		}},
		{"prices", func(k *api.RnTask) {
			for i := range k.Prices {
				k.Prices[i] = r.IntN(k.Prices[i] + 1)
			}
		}},
		{"high", func(k *api.RnTask) { k.High = min(k.High+r.IntN(20), api.MaxLevel) }},
		{"low", func(k *api.RnTask) { k.Low = max(k.Low-r.IntN(20), k.Basin.Rows[0].Level) }},
	}
	for i := range 3000 {
		k := kinds()[i%3].some(r, from(r, 2, 4), from(r, 1, 3))
		_, cost, e := runoff.Best(k)
		for _, c := range changes {
			_, n, after := runoff.Best(changed(k, c.do))
			if e == api.OK && (after != api.OK || n > cost) {
				t.Fatalf("%v: Best costs %d, with another %s %d, %d", k, cost, c.name, n, after)
			}
			counts.Note(c.name+": less", e == api.OK && n < cost)
			counts.Note(c.name+": one", e != api.OK && after == api.OK)
		}
	}
	counts.Least(t, 20, "pump: less", "prices: less", "high: less", "low: less", "pump: one", "high: one", "low: one")
}

// copyQuestion copies the lists of a question.
func copyQuestion(q question) question {
	q.state, q.plan = copyState(q.state), copyPlan(q.plan)
	q.before, q.on = slices.Clone(q.before), slices.Clone(q.on)
	return q
}

// P7.14: any arguments are accepted, and not modified.
func TestAnyArguments(t *testing.T) {
	least, most := math.MinInt, math.MaxInt
	tasks := []api.RnTask{
		{}, example(), pond(), lagoon(), largest(),
		changed(example(), func(t *api.RnTask) { t.State.Volume = most }), changed(example(), func(t *api.RnTask) { t.Outer[0], t.Prices[1] = least, most }),
		changed(example(), func(t *api.RnTask) { t.Low, t.High = least, most }), changed(example(), func(t *api.RnTask) { t.Sluices[0].Width, t.Pumps[0].Lift = most, least }),
		changed(example(), func(t *api.RnTask) { t.Basin.Rows = nil }), changed(example(), func(t *api.RnTask) { t.Outer, t.River = nil, nil }),
		changed(example(), func(t *api.RnTask) { t.Pumps = make([]api.RnPump, 500) }), changed(example(), func(t *api.RnTask) { t.On = make([]bool, 500) }),
		changed(example(), func(t *api.RnTask) { ticks(t, 500) }), changed(example(), func(t *api.RnTask) { ticks(t, 0) }),
	}
	questions := []question{
		{}, {state: example().State, before: none(), on: both(), plan: plan(mill(), none())}, {state: pond().State, plan: plan(nil)}, {state: pond().State, before: []bool{}, on: []bool{}, plan: [][]bool{}},
		{state: largest().State, before: make([]bool, 4), on: make([]bool, 4), plan: all(6, make([]bool, 4))}, {state: api.BsState{Volume: most, Filled: []int{least}}, before: make([]bool, 9), on: make([]bool, 9), plan: all(9, make([]bool, 9))},
	}
	spans := []api.Span{sp(least, most), sp(0, 0), sp(least, least)}
	for _, k := range tasks {
		for _, q := range questions {
			for _, x := range []int{least, -1, 0, 1, 5, 6, 10000000, 10000001, most} {
				q.tick, q.least = x, x
				for range 2 {
					k1, q1, spans1 := copyTask(k), copyQuestion(q), slices.Clone(spans)
					a := ask(k, q)
					runoff.Windows(spans, x)
					if !reflect.DeepEqual(k, k1) || !reflect.DeepEqual(q, q1) || !slices.Equal(spans, spans1) {
						t.Fatalf("arguments changed: %v, %v, %v", k, q, spans)
					}
					if a.errors[0] != api.OK && !a.areZero() {
						t.Fatalf("a result is not zero: %v", a)
					}
					q.tick = 0
				}
			}
		}
	}
}

// largest is a task with as much as there can be of all, in which at least two devices have to be on in each tick.
func largest() api.RnTask {
	k := api.RnTask{
		Basin: api.BsBasin{Leak: 9, Crest: 3000, Over: 500}, State: api.BsState{Volume: 150000000},
		Outer: all(6, -500), River: all(6, 600000), Prices: []int{6, 5, 4, 3, 2, 1}, Low: 496, High: 504,
		Sluices: []api.RnSluice{{Name: "a", Width: 150, Move: 10}, {Name: "b", Width: 311, Move: 7}},
		Pumps:   []api.RnPump{{Name: "c", Rate: 401003, Base: 50, Lift: 1, Start: 7}, {Name: "d", Rate: 733001, Base: 90, Lift: 1, Start: 7}},
		On:      make([]bool, 4),
	}
	for i := range api.MaxBsRows {
		k.Basin.Rows = append(k.Basin.Rows, api.BsRow{Level: -1000 + i*300, Volume: i*30000000 + i*i*1000})
	}
	for i := range api.MaxBsPolders {
		k.Basin.Polders = append(k.Basin.Polders, api.BsPolder{Name: "polder-" + string(rune('a'+i)), Sill: 499 + i, Take: 300, Room: 5000000})
		k.State.Filled = append(k.State.Filled, i)
	}
	return k
}

// Tasks with as much as there can be of all.
func TestLargest(t *testing.T) {
	r := random()
	k := largest()
	best, cost, e := runoff.Best(k)
	l, fault, _ := runoff.Do(k, best)
	if e != api.OK || fault != api.OK || len(l) != 6 || cost == 0 {
		t.Fatalf("Best = %v, %d, %d, with the fault %d", best, cost, e, fault)
	}
	for range 1000 {
		if plan, _, found := someGood(r, k); found {
			if n, e := runoff.Cost(k, plan); n < cost || e != api.OK {
				t.Fatalf("Best = %v, %d; %v costs %d, %d", best, cost, plan, n, e)
			}
		}
	}
	k.River[5] = api.MaxFlow
	isBest(t, k, nil, 0, api.ErrDown)
}

// spoil changes all that is in the lists of answers.
func (a answers) spoil() {
	for _, l := range append(slices.Clone(a.best), a.cheapest) {
		for i := range l {
			l[i] = !l[i]
		}
	}
	for i := range a.best {
		a.best[i] = nil
	}
	for i := range a.least {
		a.least[i] = 7777
	}
	for i := range a.done {
		for j := range a.done[i].State.Filled {
			a.done[i].State.Filled[j] = 7777
		}
		a.done[i] = api.RnDone{}
	}
}

// P7.14: results are new memory, and nothing is kept between calls.
func TestNewMemory(t *testing.T) {
	r := random()
	for range 100 {
		k, best, good := solved(r)
		for _, plan := range [][][]bool{best, good} {
			q := question{state: copyState(k.State), before: someChoice(r, k), on: someChoice(r, k), plan: plan}
			before, kept := copyTask(k), copyQuestion(q)
			want := ask(k, q)
			ask(k, q).spoil()
			if again := ask(k, q); !reflect.DeepEqual(again, want) || !reflect.DeepEqual(k, before) || !reflect.DeepEqual(q, kept) {
				t.Fatalf("a result shares memory with an argument: %v, %v", again, want)
			}
		}
	}
	// Nor do two choices of a plan, or two states.
	k := changed(largest(), func(t *api.RnTask) { t.High = 20000 })
	l, _, _ := runoff.Best(k)
	l[0][0] = true
	states, _, _ := runoff.Do(k, all(6, make([]bool, 4)))
	states[0].State.Filled[0] = 7777
	if l[1][0] || states[1].State.Filled[0] == 7777 {
		t.Errorf("parts of a result share memory: %v, %v", l, states)
	}
}
