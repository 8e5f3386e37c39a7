package closure_test

import (
	"math"
	"math/rand/v2"
	"reflect"
	"slices"
	"testing"

	"barrage/api"
	"barrage/closure"
	"barrage/probe"
)

// decided returns random tasks with rules, and what is decided about them.
func decided(r *rand.Rand, i int) (k api.ClTask, rs api.ClRules, d api.ClDecision, e api.Errno) {
	k, rs = kinds()[i%4].one(r, 10), someRules(r)
	d, e = closure.Decide(k, rs)
	return k, rs, d, e
}

// lower returns a task whose histories are not above those of another one.
func lower(r *rand.Rand, k api.ClTask) api.ClTask {
	return changed(k, func(t *api.ClTask) {
		for _, h := range t.Histories {
			for j := range h.Values {
				h.Values[j] -= r.IntN(2) * r.IntN((h.Values[j]-api.MinLevel)/9+1)
			}
		}
	})
}

// P5.9
func TestLowerHistories(t *testing.T) {
	r := random()
	counts := probe.Counts{}
	for i := range 12000 {
		k, _, d, e := decided(r, i)
		p := somePlan(r, k)
		if e == api.OK && r.IntN(2) == 0 {
			p = d.Plan
		}
		below := lower(r, k)
		holds, e1 := closure.Holds(k, p)
		also, e2 := closure.Holds(below, p)
		if e1 != e2 {
			t.Fatalf("%v: errors %d, %d", k, e1, e2)
		}
		for h := range holds {
			if holds[h] && !also[h] {
				t.Fatalf("%v: %v holds for %d, and not if this is %v", k, p, h, below.Histories[h])
			}
			inner, _ := closure.Inner(below, h, p)
			if holds[h] && slices.ContainsFunc(inner, func(s api.Span) bool { return s.Hi > k.Limit }) {
				t.Fatalf("%v: Inner with %v is %v if the history %d is %v", k, p, inner, h, below.Histories[h])
			}
			counts.Note("both", holds[h] && p != not())
			counts.Note("the lower one alone", !holds[h] && also[h])
			counts.Note("decided", e == api.OK && p == d.Plan && p != not())
		}
	}
	counts.Least(t, 200, "both", "the lower one alone", "decided")
}

// holdsForAll reports whether a plan holds for all histories.
func holdsForAll(k api.ClTask, p api.ClPlan) bool {
	l, e := closure.Holds(k, p)
	return e == api.OK && !slices.Contains(l, false)
}

// opens returns the plans that close at a tick.
func opens(k api.ClTask, tick int) (l []api.ClPlan) {
	h := k.Histories[0]
	for open := tick + k.Delay + 1; open <= h.From+len(h.Values); open++ {
		l = append(l, plan(tick, open))
	}
	return l
}

// begins returns the ticks at which closing can begin.
func begins(k api.ClTask) (l []int) {
	h := k.Histories[0]
	for tick := h.From; tick+k.Delay < h.From+len(h.Values); tick++ {
		l = append(l, tick)
	}
	return l
}

// P5.10
func TestOpening(t *testing.T) {
	r := random()
	counts := probe.Counts{}
	for i := range 2000 {
		k := kinds()[i%4].one(r, 8)
		for _, tick := range begins(k) {
			p, e := closure.Plan(k, tick)
			if e != api.OK || p.Close != tick {
				t.Fatalf("%v: Plan from %d = %v, %d", k, tick, p, e)
			}
			for _, other := range opens(k, tick) {
				if !holdsForAll(k, other) {
					continue
				}
				if !holdsForAll(k, p) || p.Open > other.Open {
					t.Fatalf("%v: %v holds, and the plan from its tick is %v", k, other, p)
				}
				counts.Note("the same", p == other)
				counts.Note("another one", p != other)
			}
		}
	}
	counts.Least(t, 500, "the same", "another one")
}

// otherWitnesses returns a decision to close, each witness of which is any one that rules out its tick.
func otherWitnesses(r *rand.Rand, t reference, d api.ClDecision) api.ClDecision {
	d = copyDecision(d)
	for i := range d.Later {
		var l []api.ClWitness
		for h := range t.Histories {
			for at := t.from(); at <= t.last(); at++ {
				if w := (api.ClWitness{History: h, At: at}); t.rulesOut(w, d.Plan.Close+1+i) {
					l = append(l, w)
				}
			}
		}
		d.Later[i] = l[r.IntN(len(l))]
	}
	return d
}

// P5.11
func TestAcceptedIsLast(t *testing.T) {
	r := random()
	counts := probe.Counts{}
	for i := range 12000 {
		k, rs, right, e := decided(r, i)
		if e != api.OK {
			continue
		}
		if at, e := closure.Accept(k, rs, right); at != 0 || e != api.OK {
			t.Fatalf("%v: Accept of %v = %d, %d", k, right, at, e)
		}
		d := otherWitnesses(r, reference{k}, right)
		if r.IntN(3) == 0 {
			d = spoilt(r, reference{k}, right)
		}
		if _, e := closure.Accept(k, rs, d); e != api.OK || d.Plan == not() {
			counts.Note("refused", e != api.OK)
			continue
		}
		is, _ := closure.Allowed(k, rs, d.Plan.Close)
		if d.Plan.Close != right.Plan.Close || !is {
			t.Fatalf("%v: Accept of %v, Decide = %v; allowed: %v", k, d, right, is)
		}
		for _, tick := range begins(k) {
			if tick > d.Plan.Close && slices.ContainsFunc(opens(k, tick), func(p api.ClPlan) bool { return holdsForAll(k, p) }) {
				t.Fatalf("%v: Accept of %v, but a plan from %d holds", k, d, tick)
			}
		}
		counts.Note("the same", sameDecision(d, right))
		counts.Note("another one", !sameDecision(d, right))
	}
	counts.Least(t, 100, "refused", "the same", "another one")
}

// P5.12: with one history less.
func TestLessHistories(t *testing.T) {
	r := random()
	counts := probe.Counts{}
	for i := range 20000 {
		k, rs, d, e := decided(r, i)
		if e != api.OK || len(k.Histories) == 1 {
			continue
		}
		at := r.IntN(len(k.Histories))
		less := changed(k, func(t *api.ClTask) { t.Histories = slices.Delete(t.Histories, at, at+1) })
		is, _ := closure.Allowed(less, rs, d.Plan.Close)
		if !is {
			counts.Note("no longer allowed", d.Plan != not())
			continue
		}
		got, e := closure.Decide(less, rs)
		if e != api.OK || got.Plan.Close < d.Plan.Close {
			t.Fatalf("%v: Decide by %v = %v, without %d %v, %d", k, rs, d, at, got, e)
		}
		counts.Note("the same", got.Plan.Close == d.Plan.Close)
		counts.Note("later", got.Plan.Close > d.Plan.Close)
	}
	counts.Least(t, 50, "no longer allowed", "the same", "later")
}

// P5.12: with a greater limit.
func TestGreaterLimit(t *testing.T) {
	r := random()
	counts := probe.Counts{}
	for i := range 12000 {
		k := kinds()[i%4].one(r, 10)
		more := k
		more.Limit = min(k.Limit+r.IntN(kinds()[i%4].step)+1, api.MaxLevel)
		p := somePlan(r, k)
		holds, _ := closure.Holds(k, p)
		also, _ := closure.Holds(more, p)
		for h := range k.Histories {
			if holds != nil && holds[h] && !also[h] {
				t.Fatalf("%v: %v holds for %d, and not with the limit %d", k, p, h, more.Limit)
			}
			last, e := closure.Last(k, h)
			later, e1 := closure.Last(more, h)
			if e == api.OK && (e1 != api.OK || later < last) {
				t.Fatalf("%v: Last of %d = %d, with the limit %d %d, %d", k, h, last, more.Limit, later, e1)
			}
			counts.Note("holds only then", holds != nil && !holds[h] && also[h])
			counts.Note("later", e == api.OK && later > last)
			counts.Note("there is one", e != api.OK && e1 == api.OK)
		}
	}
	counts.Least(t, 200, "holds only then", "later", "there is one")
}

// P5.13
func TestEachAlone(t *testing.T) {
	r := random()
	counts := probe.Counts{}
	for i := range 12000 {
		k, _, d, e := decided(r, i)
		p := somePlan(r, k)
		holds, e1 := closure.Holds(k, p)
		for h := range k.Histories {
			if e == api.OK && d.Plan != not() {
				last, e := closure.Last(k, h)
				if e != api.OK || d.Plan.Close > last {
					t.Fatalf("%v: Decide = %v, Last of %d = %d, %d", k, d, h, last, e)
				}
				counts.Note("as late", d.Plan.Close == last)
				counts.Note("sooner", d.Plan.Close < last)
			}
			if e1 != api.OK {
				continue
			}
			inner, e := closure.Inner(k, h, p)
			isAbove := e == api.ErrLong || slices.ContainsFunc(inner, func(s api.Span) bool { return s.Hi > k.Limit })
			if holds[h] == isAbove {
				t.Fatalf("%v: Holds of %v = %v, Inner of %d = %v, %d", k, p, holds, h, inner, e)
			}
		}
	}
	counts.Least(t, 200, "as late", "sooner")
}

// P5.14: what Decide decides is best, if it is to close.
func TestBestHoldsForMost(t *testing.T) {
	r := random()
	counts := probe.Counts{}
	for i := range 12000 {
		k, rs, d, e := decided(r, i)
		p, l, e1 := closure.Best(k, rs)
		if e == api.OK && (p != d.Plan || e1 != api.OK || d.Plan != not() && len(l) > 0) {
			t.Fatalf("%v: Decide = %v, Best = %v, %v, %d", k, d, p, l, e1)
		}
		counts.Note("decided", e == api.OK && d.Plan != not())
		if e1 != api.OK || p == not() {
			continue
		}
		for _, tick := range begins(k) {
			if is, _ := closure.Allowed(k, rs, tick); !is {
				continue
			}
			other, _ := closure.Plan(k, tick)
			holds, _ := closure.Holds(k, other)
			fails := 0
			for _, is := range holds {
				if !is {
					fails++
				}
			}
			if fails < len(l) || fails == len(l) && other.Close > p.Close {
				t.Fatalf("%v: Best = %v, not for %v; %v: %v", k, p, l, other, holds)
			}
			counts.Note("worse", fails > len(l))
			counts.Note("as good", fails == len(l) && other != p)
		}
	}
	counts.Least(t, 200, "decided", "worse", "as good")
}

// P5.15: any arguments are accepted, and not modified.
func TestAnyArguments(t *testing.T) {
	least, most := math.MinInt, math.MaxInt
	tasks := []api.ClTask{
		{}, storm(), low(), apart(), {Histories: make([]api.Series, 9)}, task(tight(), 1500, []int{0, 0, 800, 1501, 0}),
		changed(storm(), func(t *api.ClTask) { t.Histories[0].From = most }), changed(storm(), func(t *api.ClTask) { t.Histories[1].Values = nil }),
		changed(storm(), func(t *api.ClTask) { t.River[0] = least }), changed(storm(), func(t *api.ClTask) { t.Basin.Rows[0] = api.BsRow{Level: least, Volume: most} }),
		changed(low(), func(t *api.ClTask) { t.Filled[0] = most }), changed(low(), func(t *api.ClTask) { t.Out, t.Limit, t.Delay = most, least, most }),
		changed(storm(), func(t *api.ClTask) { t.Delay = 30 }), changed(storm(), func(t *api.ClTask) { t.Delay, t.Limit = 0, -1000 }),
	}
	plans := []api.ClPlan{not(), {}, plan(10, 15), plan(most, most), plan(least, most), plan(10, least), plan(most-1, least)}
	decisions := []api.ClDecision{
		{}, decision(), {Plan: not(), Peaks: make([]api.ClPeak, 2), Later: make([]api.ClWitness, 1)},
		{Plan: plan(10, 15), Peaks: decision().Peaks, Later: all(4, api.ClWitness{History: most, At: least})}, {Plan: plan(10, 15), Peaks: all(2, api.ClPeak{At: most, Level: least})},
		{Plan: plan(10, 15), Peaks: decision().Peaks, Later: all(4, api.ClWitness{At: most})}, {Plan: plan(most, least)},
	}
	for _, k := range tasks {
		for i, d := range decisions {
			for _, rs := range []api.ClRules{{}, rules(), {Count: 2}, {Count: most, Early: least}, {Count: 8, Early: 60}} {
				for _, x := range []int{least, -1, 0, 1, 10, 101, most} {
					k1, d1 := copyTask(k), copyDecision(d)
					ask(k, rs, x, x, plans[i], d)
					if !reflect.DeepEqual(k, k1) || !sameDecision(d, d1) {
						t.Fatalf("arguments changed: %v, %v", k, d)
					}
				}
			}
		}
	}
}

// spoil changes each number in the lists of answers.
func (a answers) spoil() {
	for i := range a.inner {
		a.inner[i] = sp(7777, 7777)
	}
	for i := range a.holds {
		a.holds[i] = !a.holds[i]
	}
	for i := range a.decision.Peaks {
		a.decision.Peaks[i].Level = 7777
	}
	for i := range a.decision.Later {
		a.decision.Later[i].At = 7777
	}
	for i := range a.not {
		a.not[i] = 7777
	}
}

// P5.15: results are new memory, and nothing is kept between calls.
func TestNewMemory(t *testing.T) {
	for _, rs := range []api.ClRules{rules(), {Count: 2, Early: 3}} {
		k, d := low(), decision()
		before, kept := copyTask(k), copyDecision(d)
		call := func() answers { return ask(k, rs, 10, 0, plan(10, 15), d) }
		want := call()
		call().spoil()
		if again := call(); !reflect.DeepEqual(again, want) || !reflect.DeepEqual(k, before) || !sameDecision(d, kept) {
			t.Errorf("a result shares memory with an argument: %v, %v", again, want)
		}
	}
}
