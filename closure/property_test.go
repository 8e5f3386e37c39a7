package closure_test

import (
	"math/big"
	"math/rand/v2"
	"slices"
	"testing"

	"barrage/api"
	"barrage/basin"
	"barrage/closure"
	"barrage/probe"
)

// tasks are random tasks: levels are from a span, multiples of some mm, and change by at most a step in a tick; so much comes in by the rivers, and runs off.
type tasks struct {
	low, high, unit, step int
	flow                  int
	basin                 func(r *rand.Rand) api.BsBasin
}

// small is a basin of few m3, in which roundings count, with polders.
func small(r *rand.Rand) api.BsBasin {
	b := api.BsBasin{Crest: from(r, 50, 300), Over: r.IntN(4), Leak: r.IntN(3)}
	row := api.BsRow{Level: from(r, -150, 0), Volume: r.IntN(20)}
	for range from(r, 2, 4) {
		b.Rows = append(b.Rows, row)
		gap := from(r, 1, 90)
		row = api.BsRow{Level: row.Level + gap, Volume: row.Volume + gap*3 + r.IntN(gap*6)}
	}
	for i := range r.IntN(3) {
		b.Polders = append(b.Polders, api.BsPolder{Name: string(rune('a' + i)), Sill: from(r, b.Rows[0].Level, 150), Take: r.IntN(4), Room: r.IntN(200)})
	}
	return b
}

// brimful is a basin in which there is not much room up to MaxVolume, at levels that are not high.
func brimful(r *rand.Rand) api.BsBasin {
	b := small(r)
	b.Rows = b.Rows[:2]
	by := api.MaxVolume - b.Rows[1].Volume - r.IntN(200)
	for i := range b.Rows {
		b.Rows[i].Volume += by
	}
	return b
}

// wide is a basin as large as there can be.
func wide(r *rand.Rand) api.BsBasin {
	return api.BsBasin{
		Rows:    []api.BsRow{{Level: from(r, -20000, -9000), Volume: r.IntN(1000)}, {Level: from(r, 0, 1000), Volume: from(r, 200000000, 300000000)}, {Level: from(r, 9000, 20000), Volume: from(r, 800000000, 1000000000)}},
		Leak:    r.IntN(9001),
		Crest:   from(r, 0, 20000),
		Over:    r.IntN(10001),
		Polders: []api.BsPolder{{Name: "a", Sill: from(r, -9000, 20000), Take: r.IntN(9001), Room: r.IntN(300000000)}},
	}
}

// kinds are the tasks of all tests.
func kinds() []tasks {
	return []tasks{
		{low: -200, high: 300, unit: 1, step: 90, flow: 60, basin: small},
		{low: -200, high: 300, unit: 25, step: 90, flow: 250, basin: small},
		{low: -200, high: 250, unit: 5, step: 120, flow: 150, basin: brimful},
		{low: -20000, high: 20000, unit: 1, step: 9000, flow: api.MaxFlow, basin: wide},
	}
}

// history returns random levels, that mostly rise up to some tick, and fall then.
func (k tasks) history(r *rand.Rand, n int) (l []int) {
	x, top := from(r, k.low, k.low+(k.high-k.low)/4), r.IntN(n)
	for i := range n {
		l = append(l, x/k.unit*k.unit)
		by := from(r, -k.step/4, k.step)
		if i >= top {
			by = -by
		}
		x = min(max(x+by, k.low), k.high)
	}
	return l
}

// one returns a random task without an error.
func (k tasks) one(r *rand.Rand, ticks int) api.ClTask {
	n, first := max(from(r, 1, ticks), from(r, 1, ticks)), r.IntN(5)
	t := api.ClTask{Basin: k.basin(r), Delay: r.IntN(4), Out: r.IntN(2) * r.IntN(k.flow/2)}
	for _, p := range t.Basin.Polders {
		t.Filled = append(t.Filled, from(r, 0, p.Room))
	}
	for range from(r, 1, 3) {
		t.Histories = append(t.Histories, series(first, k.history(r, n)...))
	}
	rain := r.IntN(k.flow) + 1
	for range n {
		t.River = append(t.River, r.IntN(rain))
	}
	// Mostly just below the highest level of a history.
	t.Limit = from(r, t.Basin.Rows[0].Level, max(t.Basin.Rows[0].Level, k.high))
	if top := slices.Max(t.Histories[0].Values); r.IntN(8) > 0 {
		t.Limit = max(top-from(r, 0, k.step), t.Basin.Rows[0].Level)
	}
	return t
}

func someRules(r *rand.Rand) api.ClRules {
	return api.ClRules{Count: max(from(r, -3, 3), 1), Early: r.IntN(8)}
}

// somePlan returns a random plan, which mostly is one of the task.
func somePlan(r *rand.Rand, t api.ClTask) api.ClPlan {
	h := t.Histories[0]
	at := h.From + r.IntN(len(h.Values))
	return []api.ClPlan{not(), plan(at, h.From+len(h.Values)), plan(at, at+t.Delay+1+r.IntN(4)), plan(at, at+t.Delay+1+r.IntN(4)), plan(at-2, at+2)}[r.IntN(5)]
}

// reference answers by the definitions; levels are fractions, and nil: too great.
type reference struct{ api.ClTask }

func (t reference) from() int { return t.Histories[0].From }

func (t reference) last() int { return t.from() + len(t.Histories[0].Values) - 1 }

func (t reference) outer(history, tick int) int { return t.Histories[history].Values[tick-t.from()] }

// exact returns the exact level of a volume.
func (t reference) exact(volume int) *big.Rat {
	rows := t.Basin.Rows
	a := len(rows) - 2
	for rows[a].Volume > volume {
		a--
	}
	x := big.NewRat(int64(rows[a+1].Level-rows[a].Level), int64(rows[a+1].Volume-rows[a].Volume))
	x.Mul(x, big.NewRat(int64(volume-rows[a].Volume), 1))
	return x.Add(x, big.NewRat(int64(rows[a].Level), 1))
}

// inner returns the inner level at each tick.
func (t reference) inner(history int, p api.ClPlan) (l []*big.Rat) {
	shut := p.Close + t.Delay
	var s api.BsState
	isFull := false
	for tick := t.from(); tick <= t.last(); tick++ {
		outer := t.outer(history, tick)
		if p == not() || tick <= shut || tick >= p.Open {
			l = append(l, big.NewRat(int64(outer), 1))
		}
		if p == not() || tick < shut || tick >= p.Open {
			continue
		}
		if tick == shut {
			s = api.BsState{Volume: t.Basin.Rows[0].Volume, Filled: t.Filled}
			if outer >= t.Basin.Rows[0].Level {
				s.Volume, _ = basin.Volume(t.Basin, outer)
			}
			continue
		}
		at := tick - 1 - t.from()
		if !isFull {
			next, _, e := basin.Step(t.Basin, s, api.BsTick{Outer: t.outer(history, tick-1), River: t.River[at], Out: t.Out})
			s, isFull = next, e != api.OK
		}
		if isFull {
			l = append(l, nil)
		} else {
			l = append(l, t.exact(s.Volume))
		}
	}
	return l
}

func (t reference) isAbove(x *big.Rat) bool {
	return x == nil || x.Cmp(big.NewRat(int64(t.Limit), 1)) > 0
}

func (t reference) holds(history int, p api.ClPlan) bool {
	return !slices.ContainsFunc(t.inner(history, p), t.isAbove)
}

// highAt reports whether a history is high at a tick.
func (t reference) highAt(history, tick int) bool { return t.outer(history, tick) > t.Limit }

func (t reference) quiet() int {
	quiet := t.from()
	for tick := t.from(); tick <= t.last(); tick++ {
		for i := range t.Histories {
			if t.highAt(i, tick) {
				quiet = tick + 1
			}
		}
	}
	return quiet
}

func (t reference) canBegin(tick int) bool { return t.from() <= tick && tick <= t.last()-t.Delay }

func (t reference) isPlan(p api.ClPlan) bool {
	return p == not() || t.canBegin(p.Close) && p.Open > p.Close+t.Delay && p.Open <= t.last()+1
}

func (t reference) plan(tick int) api.ClPlan { return plan(tick, max(t.quiet(), tick+t.Delay+1)) }

// high returns the histories that are high at some tick, and the first tick at which one is.
func (t reference) high() (l []int, first int) {
	first = t.last() + 1
	for i := range t.Histories {
		isHigh := false
		for tick := t.last(); tick >= t.from(); tick-- {
			if t.highAt(i, tick) {
				isHigh, first = true, min(first, tick)
			}
		}
		if isHigh {
			l = append(l, i)
		}
	}
	return l, first
}

func (t reference) calls(r api.ClRules) bool {
	l, _ := t.high()
	return len(l) >= r.Count
}

func (t reference) allows(r api.ClRules, tick int) bool {
	_, first := t.high()
	return t.canBegin(tick) && t.calls(r) && tick >= first-r.Early
}

// failing returns the histories for which a plan does not hold.
func (t reference) failing(p api.ClPlan) (l []int) {
	for i := range t.Histories {
		if !t.holds(i, p) {
			l = append(l, i)
		}
	}
	return l
}

// up returns the least integer that is not below a fraction, down the greatest one that is not above.
func up(x *big.Rat) int { return -down(new(big.Rat).Neg(x)) }

func down(x *big.Rat) int { return int(new(big.Int).Div(x.Num(), x.Denom()).Int64()) }

func (t reference) peak(history int, p api.ClPlan) api.ClPeak {
	at := 0
	l := t.inner(history, p)
	for i := range l {
		if l[i].Cmp(l[at]) > 0 {
			at = i
		}
	}
	return api.ClPeak{At: t.from() + at, Level: up(l[at])}
}

// rulesOut reports whether a witness rules out a tick at which closing can begin.
func (t reference) rulesOut(w api.ClWitness, tick int) bool {
	if w.History < 0 || w.History >= len(t.Histories) || w.At < t.from() || w.At > t.last() {
		return false
	}
	return t.isAbove(t.inner(w.History, t.plan(tick))[w.At-t.from()])
}

// witness returns the first witness that rules out a tick.
func (t reference) witness(tick int) api.ClWitness {
	for i := range t.Histories {
		for at := t.from(); at <= t.last(); at++ {
			if w := (api.ClWitness{History: i, At: at}); t.rulesOut(w, tick) {
				return w
			}
		}
	}
	return api.ClWitness{History: -1}
}

// decide goes through all ticks, from the first one on.
func (t reference) decide(r api.ClRules) (d api.ClDecision, e api.Errno) {
	e = api.ErrDown
	if !t.calls(r) {
		d.Plan, e = not(), api.OK
	}
	for tick := t.from(); t.canBegin(tick); tick++ {
		if p := t.plan(tick); t.allows(r, tick) && len(t.failing(p)) == 0 {
			d.Plan, e = p, api.OK
		}
	}
	if e != api.OK {
		return d, e
	}
	for i := range t.Histories {
		d.Peaks = append(d.Peaks, t.peak(i, d.Plan))
	}
	for tick := d.Plan.Close + 1; d.Plan != not() && t.canBegin(tick); tick++ {
		d.Later = append(d.Later, t.witness(tick))
	}
	return d, api.OK
}

func (t reference) accept(r api.ClRules, d api.ClDecision) (at int, e api.Errno) {
	closes, later := d.Plan != not(), 0
	if closes {
		later = t.last() - t.Delay - d.Plan.Close
	}
	switch {
	case !t.isPlan(d.Plan), len(d.Peaks) != len(t.Histories):
		return 0, api.ErrArg
	case closes && !t.allows(r, d.Plan.Close), !closes && t.calls(r):
		return 0, api.ClErrEarly
	case closes && (d.Plan != t.plan(d.Plan.Close) || len(t.failing(d.Plan)) > 0):
		return 0, api.ClErrHolds
	}
	for i, p := range d.Peaks {
		if p != t.peak(i, d.Plan) {
			return i, api.ClErrPeak
		}
	}
	if len(d.Later) != later {
		return 0, api.ErrArg
	}
	for i, w := range d.Later {
		if !t.rulesOut(w, d.Plan.Close+1+i) {
			return i, api.ClErrLater
		}
	}
	return 0, api.OK
}

func (t reference) best(r api.ClRules) (p api.ClPlan, l []int, e api.Errno) {
	e = api.ErrDown
	if !t.calls(r) {
		l, _ = t.high()
		return not(), l, api.OK
	}
	for tick := t.from(); t.canBegin(tick); tick++ {
		if fails := t.failing(t.plan(tick)); t.allows(r, tick) && (e != api.OK || len(fails) <= len(l)) {
			p, l, e = t.plan(tick), fails, api.OK
		}
	}
	return p, l, e
}

// P5.2, P5.3, P5.5 by the definitions.
func TestPlansByDefinition(t *testing.T) {
	r := random()
	counts := probe.Counts{}
	for i := range 12000 {
		k := kinds()[i%4].one(r, 12)
		ref, p, history, rs := reference{k}, somePlan(r, k), from(r, -1, 3), someRules(r)
		if quiet, e := closure.Quiet(k); quiet != ref.quiet() || e != api.OK {
			t.Fatalf("%v: Quiet = %d, %d, want %d", k, quiet, e, ref.quiet())
		}
		for tick := ref.from() - 2; tick <= ref.last()+2; tick++ {
			want, wantE := api.ClPlan{}, api.ErrRange
			if ref.canBegin(tick) {
				want, wantE = ref.plan(tick), api.OK
			}
			if got, e := closure.Plan(k, tick); got != want || e != wantE {
				t.Fatalf("%v: Plan from %d = %v, %d, want %v, %d", k, tick, got, e, want, wantE)
			}
			if is, e := closure.Allowed(k, rs, tick); is != ref.allows(rs, tick) || e != api.OK {
				t.Fatalf("%v: Allowed by %v at %d = %v, %d", k, rs, tick, is, e)
			}
		}
		testInner(t, counts, ref, history, p)
		if t.Failed() {
			t.Fatalf("%v", k)
		}
	}
	counts.Least(t, 100, "no plan", "no history", "too great", "held, and shut", "not held", "leaves a fraction")
}

// testInner checks Inner and Holds.
func testInner(t *testing.T, counts probe.Counts, ref reference, history int, p api.ClPlan) {
	t.Helper()
	inner, e := closure.Inner(ref.ClTask, history, p)
	holds, e1 := closure.Holds(ref.ClTask, p)
	isThere, isPlan := history >= 0 && history < len(ref.Histories), ref.isPlan(p)
	counts.Note("no plan", !isPlan)
	counts.Note("no history", !isThere)
	if isPlan != (e1 == api.OK) || !isThere && e != api.ErrNone || isThere && !isPlan && (e != api.ErrRange || e1 != api.ErrRange) {
		t.Errorf("errors %d, %d", e, e1)
	}
	if !isPlan {
		return
	}
	for i, is := range holds {
		if is != ref.holds(i, p) {
			t.Errorf("Holds of %v = %v", p, holds)
		}
	}
	if !isThere {
		return
	}
	var want []api.Span
	isFull := false
	for _, x := range ref.inner(history, p) {
		if x == nil {
			isFull = true
			continue
		}
		want = append(want, sp(down(x), up(x)))
		counts.Note("leaves a fraction", !x.IsInt())
	}
	counts.Note("too great", isFull)
	counts.Note("held, and shut", p != not() && holds[history])
	counts.Note("not held", p != not() && !isFull && !holds[history])
	if isFull && (e != api.ErrLong || inner != nil) || !isFull && (e != api.OK || !slices.Equal(inner, want)) {
		t.Errorf("Inner of %d with %v = %v, %d, want %v", history, p, inner, e, want)
	}
}

// P5.4 by the definition.
func TestLastByDefinition(t *testing.T) {
	r := random()
	counts := probe.Counts{}
	for i := range 6000 {
		k := kinds()[i%4].one(r, 12)
		for history := range k.Histories {
			alone := reference{k}
			alone.Histories = []api.Series{k.Histories[history]}
			want, wantE := 0, api.ErrDown
			for tick := alone.from(); alone.canBegin(tick); tick++ {
				if alone.holds(0, alone.plan(tick)) {
					want, wantE = tick, api.OK
				}
			}
			if tick, e := closure.Last(k, history); tick != want || e != wantE {
				t.Fatalf("%v: Last of %d = %d, %d, want %d, %d", k, history, tick, e, want, wantE)
			}
			counts.Note("none", wantE != api.OK)
			counts.Note("at the end", wantE == api.OK && want == alone.last()-k.Delay)
			counts.Note("before the end", wantE == api.OK && want < alone.last()-k.Delay)
		}
	}
	counts.Least(t, 100, "none", "at the end", "before the end")
}

// P5.6, P5.8 by the definitions.
func TestDecideByDefinition(t *testing.T) {
	r := random()
	counts := probe.Counts{}
	for i := range 12000 {
		k, rs := kinds()[i%4].one(r, 10), someRules(r)
		ref := reference{k}
		want, wantE := ref.decide(rs)
		if d, e := closure.Decide(k, rs); !sameDecision(d, want) || e != wantE {
			t.Fatalf("%v: Decide by %v = %v, %d, want %v, %d", k, rs, d, e, want, wantE)
		}
		counts.Note("down", wantE == api.ErrDown)
		counts.Note("not closed", want.Plan == not())
		counts.Note("closed", wantE == api.OK && want.Plan != not())
		for j, w := range want.Later {
			at := ref.outer(w.History, w.At)
			counts.Note("shut by a witness", at <= k.Limit)
			counts.Note("witnesses differ", j > 0 && w != want.Later[j-1])
			counts.Note("a later history", w.History > 0)
			counts.Note("too great", ref.inner(w.History, ref.plan(want.Plan.Close+1+j))[w.At-ref.from()] == nil)
		}
		best, l, bestE := ref.best(rs)
		if p, got, e := closure.Best(k, rs); p != best || !slices.Equal(got, l) || e != bestE {
			t.Fatalf("%v: Best by %v = %v, %v, %d, want %v, %v, %d", k, rs, p, got, e, best, l, bestE)
		}
		counts.Note("none is allowed", bestE == api.ErrDown)
		counts.Note("best for some", bestE == api.OK && best != not() && len(l) > 0 && len(l) < len(k.Histories))
		counts.Note("best for none", bestE == api.OK && best != not() && len(l) == len(k.Histories))
	}
	counts.Least(t, 50, "down", "not closed", "closed", "shut by a witness", "witnesses differ", "a later history", "none is allowed", "best for some", "best for none")
}

// spoilt returns a decision that is changed a little, mostly.
func spoilt(r *rand.Rand, t reference, d api.ClDecision) api.ClDecision {
	d = copyDecision(d)
	for range r.IntN(3) {
		switch r.IntN(8) {
		case 0:
			d.Plan = somePlan(r, t.ClTask)
		case 1:
			d.Plan.Open += from(r, -1, 1)
		case 2:
			d.Peaks = d.Peaks[:r.IntN(len(d.Peaks)+1)]
		case 3, 4:
			for i := range d.Peaks {
				d.Peaks[i].Level += from(r, -1, 1) * r.IntN(2)
				d.Peaks[i].At += from(r, -1, 1) * r.IntN(2)
			}
		case 5:
			d.Later = d.Later[:r.IntN(len(d.Later)+1)]
		default:
			for i := range d.Later {
				if r.IntN(2) == 0 {
					d.Later[i] = api.ClWitness{History: from(r, -1, 3), At: from(r, t.from()-1, t.last()+1)}
				}
			}
		}
	}
	return d
}

// earlier returns a decision with a plan that holds, from a random tick, right but for what it does not rule out.
func earlier(r *rand.Rand, t reference) (d api.ClDecision) {
	tick := t.from() + r.IntN(max(t.last()-t.Delay-t.from()+1, 1))
	if !t.canBegin(tick) || len(t.failing(t.plan(tick))) > 0 {
		return api.ClDecision{Plan: not(), Peaks: make([]api.ClPeak, len(t.Histories))}
	}
	d.Plan = t.plan(tick)
	for i := range t.Histories {
		d.Peaks = append(d.Peaks, t.peak(i, d.Plan))
	}
	for later := tick + 1; t.canBegin(later); later++ {
		d.Later = append(d.Later, t.witness(later))
	}
	return d
}

// P5.7 by the definition.
func TestAcceptByDefinition(t *testing.T) {
	r := random()
	counts := map[api.Errno]int{}
	for i := range 16000 {
		k, rs := kinds()[i%4].one(r, 10), someRules(r)
		ref := reference{k}
		d, e := ref.decide(rs)
		if e != api.OK || r.IntN(4) == 0 {
			d = earlier(r, ref)
		}
		d = spoilt(r, ref, d)
		at, e := closure.Accept(k, rs, d)
		if wantAt, want := ref.accept(rs, d); at != wantAt || e != want {
			t.Fatalf("%v: Accept by %v of %v = %d, %d, want %d, %d", k, rs, d, at, e, wantAt, want)
		}
		counts[e]++
	}
	for _, e := range []api.Errno{api.OK, api.ErrArg, api.ClErrEarly, api.ClErrHolds, api.ClErrPeak, api.ClErrLater} {
		if counts[e] < 200 {
			t.Errorf("error %d: %d times", e, counts[e])
		}
	}
}
