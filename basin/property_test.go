package basin_test

import (
	"math/big"
	"math/rand/v2"
	"testing"

	"barrage/api"
	"barrage/basin"
	"barrage/probe"
)

// down returns the greatest integer that is not above a fraction.
func down(x *big.Rat) int {
	n := new(big.Int).Div(x.Num(), x.Denom())
	return int(n.Int64())
}

func whole(n int) *big.Rat { return big.NewRat(int64(n), 1) }

// exact returns the exact level of a volume by its definition.
func exact(b api.BsBasin, volume int) *big.Rat {
	last := 0
	for i, row := range b.Rows {
		if row.Volume <= volume {
			last = i
		}
	}
	last = min(last, len(b.Rows)-2)
	p, q := b.Rows[last], b.Rows[last+1]
	x := big.NewRat(int64(q.Level-p.Level), int64(q.Volume-p.Volume))
	x.Mul(x, whole(volume-p.Volume))
	return x.Add(x, whole(p.Level))
}

// times returns a rate times the difference of two levels, rounded down.
func times(rate int, high, low *big.Rat) int {
	x := new(big.Rat).Sub(high, low)
	return down(x.Mul(x, whole(rate)))
}

// tick returns what a tick does by the definition; the numbers are without an error.
func tick(w probe.Counts, b api.BsBasin, s api.BsState, x api.BsTick) (api.BsState, api.BsFlows, api.Errno) {
	var f api.BsFlows
	v, first := s.Volume, b.Rows[0].Volume
	f.River = x.River
	v += f.River
	isTooMuch := v > api.MaxVolume
	if over := b.Over * (x.Outer - b.Crest); over > 0 {
		f.Over = over
		w.Note("over", true)
	}
	v += f.Over
	isTooMuch = isTooMuch || v > api.MaxVolume
	if isTooMuch {
		w.Note("too much before it leaks", true)
		return api.BsState{}, api.BsFlows{}, api.ErrLong
	}
	f.Leak = times(b.Leak, whole(x.Outer), exact(b, v))
	if f.Leak < 0 && v+f.Leak < first {
		f.Leak = first - v
		w.Note("leaks until it is empty", true)
	}
	v += f.Leak
	w.Note("leaks in", f.Leak > 0)
	w.Note("leaks out", f.Leak < 0)
	if v > api.MaxVolume {
		w.Note("too much by leaks", true)
		return api.BsState{}, api.BsFlows{}, api.ErrLong
	}
	f.Out = x.Out
	if f.Out > v-first {
		f.Out = v - first
		w.Note("runs off until it is empty", true)
	}
	v -= f.Out
	s = copyState(s)
	for i, p := range b.Polders {
		n := 0
		if l := exact(b, v); l.Cmp(whole(p.Sill)) > 0 {
			n = times(p.Take, l, whole(p.Sill))
			if room := p.Room - s.Filled[i]; room < n {
				n = room
				w.Note("full", true)
			}
			w.Note("takes", n > 0)
		}
		f.Taken = append(f.Taken, n)
		s.Filled[i] += n
		v -= n
	}
	s.Volume = v
	return s, f, api.OK
}

// P4.3 by the definition, with small numbers, in which roundings count, and with the largest ones.
func TestStepIsExact(t *testing.T) {
	r := random()
	for _, k := range []basins{small(), large()} {
		w := probe.Counts{}
		for range 20000 {
			b := k.one(r)
			s, x := someState(r, b), k.ticks(r, b, 1)[0]
			want, flows, e := tick(w, b, s, x)
			if e == api.OK {
				isStep(t, b, s, x, want, flows)
			} else if y, f, got := basin.Step(b, s, x); got != e || !sameState(y, want) || !sameFlows(f, flows) {
				t.Errorf("Step of %v by %v = %v, %v, %d", s, x, y, f, got)
			}
			if t.Failed() {
				t.Fatalf("%v", b)
			}
		}
		w.Least(t, 100, "over", "too much before it leaks", "leaks in", "leaks out", "leaks until it is empty", "runs off until it is empty", "takes", "full")
	}
}

// P4.2, P4.10: levels and volumes by their definitions.
func TestLevelsAreExact(t *testing.T) {
	r := random()
	for _, k := range []basins{small(), large()} {
		capped := 0
		for range 3000 {
			b := k.one(r)
			volume, more := from(r, b.Rows[0].Volume, most(b)), from(r, b.Rows[0].Volume, api.MaxVolume)
			l := exact(b, volume)
			s, e := basin.Level(b, volume)
			if e != api.OK || s.Lo != down(l) || s.Hi != -down(l.Neg(l)) {
				t.Fatalf("%v: Level of %d = %v, %d", b, volume, s, e)
			}
			if after, _ := basin.Level(b, more); more > volume && (after.Lo < s.Lo || after.Hi < s.Hi) {
				t.Fatalf("%v: Level of %d = %v, of %d = %v", b, volume, s, more, after)
			}
			if n, e := basin.Volume(b, s.Hi); e == api.OK && n < volume || e != api.OK && s.Hi <= api.MaxLevel {
				t.Fatalf("%v: Volume at %d = %d, %d; it is the Hi of %d", b, s.Hi, n, e, volume)
			}
			level := k.limit(r, b)
			n, e := basin.Volume(b, level)
			isMost := n == api.MaxVolume || exact(b, n+1).Cmp(whole(level)) > 0
			if e != api.OK || n > api.MaxVolume || n < b.Rows[0].Volume || exact(b, n).Cmp(whole(level)) > 0 || !isMost {
				t.Fatalf("%v: Volume at %d = %d, %d", b, level, n, e)
			}
			if n == api.MaxVolume {
				capped++
			}
		}
		if k == large() && capped < 100 {
			t.Errorf("MaxVolume %d times", capped)
		}
	}
}

// In a basin with at least a m3 for each mm a whole level is one of those of its Volume.
func TestLevelOfVolume(t *testing.T) {
	r := random()
	for range 3000 {
		b := small().one(r)
		for i := range b.Rows {
			b.Rows[i].Volume += b.Rows[i].Level - b.Rows[0].Level
		}
		for _, x := range []int{small().limit(r, b), b.Rows[1].Level, b.Rows[0].Level} {
			n, _ := basin.Volume(b, x)
			if s, e := basin.Level(b, n); e != api.OK || x < s.Lo || x > s.Hi {
				t.Fatalf("%v: Volume at %d = %d, and Level of it %v, %d", b, x, n, s, e)
			}
		}
	}
}

// someRun returns a random basin with a state, some ticks and a limit.
func someRun(r *rand.Rand, k basins) (b api.BsBasin, s api.BsState, l []api.BsTick, limit int) {
	b = k.one(r)
	return b, someState(r, b), k.ticks(r, b, r.IntN(9)), k.limit(r, b)
}

// P4.3 to P4.5, P4.8, P4.11: runs of ticks.
func TestRuns(t *testing.T) {
	r := random()
	seen := map[api.Errno]int{}
	stayed := map[bool]int{}
	for i := range 6000 {
		b, s, l, limit := someRun(r, []basins{small(), large()}[i%2])
		states, flows, e := basin.Run(b, s, l)
		seen[e]++
		stay, e1 := basin.Stay(b, s, l, limit)
		floods, e2 := basin.Floods(b, s, l)
		total, e3 := basin.Total(b, flows)
		if e1 != e || e2 != e || e3 != api.OK {
			t.Fatalf("%v: errors %d, %d, %d, %d", b, e, e1, e2, e3)
		}
		testRun(t, b, s, l, states, flows, e)
		if e == api.OK {
			testStates(t, b, states, limit, stay)
			testFloods(t, b, flows, floods)
			testBalance(t, s, states, total)
			stayed[stay < len(l)]++
		}
		if t.Failed() {
			t.Fatalf("%v from %v by %v within %d", b, s, l, limit)
		}
	}
	if seen[api.OK] < 1000 || seen[api.ErrLong] < 50 || stayed[true] < 500 || stayed[false] < 500 {
		t.Errorf("errors: %v, above the limit: %v", seen, stayed)
	}
}

// testRun checks a run by steps; each of them balances.
func testRun(t *testing.T, b api.BsBasin, s api.BsState, l []api.BsTick, states []api.BsState, flows []api.BsFlows, e api.Errno) {
	t.Helper()
	for i, x := range l {
		after, f, e1 := basin.Step(b, s, x)
		if e1 != api.OK {
			if e != e1 || states != nil || flows != nil {
				t.Errorf("Run = %v, %v, %d, and Step %d", states, flows, e, e1)
			}
			return
		}
		more := f.River + f.Over + f.Leak - f.Out
		for j, n := range f.Taken {
			more -= n
			if after.Filled[j] != s.Filled[j]+n || n < 0 || after.Filled[j] > b.Polders[j].Room {
				t.Errorf("polder %d: %v, after it %v; %v", j, s, after, f)
			}
		}
		if after.Volume != s.Volume+more || after.Volume < b.Rows[0].Volume || f.River != x.River || f.Over < 0 || f.Out < 0 || f.Out > x.Out {
			t.Errorf("%v, after %v %v; %v", s, x, after, f)
		}
		if e == api.OK && (!sameState(after, states[i]) || !sameFlows(f, flows[i])) {
			t.Errorf("tick %d: Run %v, %v, and Step %v, %v", i, states[i], flows[i], after, f)
		}
		s = after
	}
	if e != api.OK || len(states) != len(l) || len(flows) != len(l) {
		t.Errorf("Run = %v, %v, %d", states, flows, e)
	}
}

// testStates checks that the level is above the limit first after as many ticks as Stay says.
func testStates(t *testing.T, b api.BsBasin, states []api.BsState, limit, stay int) {
	t.Helper()
	if stay < 0 || stay > len(states) {
		t.Errorf("Stay = %d of %d", stay, len(states))
		return
	}
	for i, s := range states[:min(stay+1, len(states))] {
		if level, e := basin.Level(b, s.Volume); e != api.OK || (level.Hi > limit) != (i == stay) {
			t.Errorf("Stay = %d, and in %d the level %v, %d", stay, i, level, e)
		}
	}
}

func testFloods(t *testing.T, b api.BsBasin, flows []api.BsFlows, floods []int) {
	t.Helper()
	if len(floods) != len(b.Polders) {
		t.Errorf("Floods = %v", floods)
		return
	}
	for p, first := range floods {
		want := -1
		for i := len(flows) - 1; i >= 0; i-- {
			if flows[i].Taken[p] > 0 {
				want = i
			}
		}
		if first != want {
			t.Errorf("Floods = %v, want %d for %d", floods, want, p)
		}
	}
}

// testBalance checks that what there is more, in the basin and the polders together, is what flowed in all.
func testBalance(t *testing.T, s api.BsState, states []api.BsState, total api.BsFlows) {
	t.Helper()
	last := s
	if len(states) > 0 {
		last = states[len(states)-1]
	}
	more, taken := last.Volume-s.Volume, 0
	for i := range s.Filled {
		more += last.Filled[i] - s.Filled[i]
		taken += total.Taken[i]
		if last.Filled[i]-s.Filled[i] != total.Taken[i] {
			t.Errorf("polder %d: %v, in the end %v; in all %v", i, s, last, total)
		}
	}
	if inflow := total.River + total.Over + total.Leak - total.Out; more != inflow || last.Volume-s.Volume != inflow-taken {
		t.Errorf("%v, in the end %v; in all %v", s, last, total)
	}
}

// P4.13
func TestRunInParts(t *testing.T) {
	r := random()
	for range 2000 {
		b, s, l, _ := someRun(r, small())
		states, flows, e := basin.Run(b, s, l)
		if e != api.OK {
			continue
		}
		cut := r.IntN(len(l) + 1)
		states1, flows1, e1 := basin.Run(b, s, l[:cut])
		if cut > 0 {
			s = states1[cut-1]
		}
		states2, flows2, e2 := basin.Run(b, s, l[cut:])
		states1, flows1 = append(states1, states2...), append(flows1, flows2...)
		if e1 != api.OK || e2 != api.OK || len(states1) != len(l) || len(flows1) != len(l) {
			t.Fatalf("%v, cut at %d: %v, %d, %d", l, cut, states1, e1, e2)
		}
		for i := range l {
			if !sameState(states[i], states1[i]) || !sameFlows(flows[i], flows1[i]) {
				t.Fatalf("%v, cut at %d: %v, %v, and in all %v, %v", l, cut, states1, flows1, states, flows)
			}
		}
	}
}

// P4.13: without water that moves nothing changes.
func TestStill(t *testing.T) {
	r := random()
	still := 0
	for range 2000 {
		b, s, l, _ := someRun(r, small())
		b.Leak, b.Over = 0, 0
		for i := range l {
			l[i].River, l[i].Out = 0, 0
		}
		level, _ := basin.Level(b, s.Volume)
		low := false
		for _, p := range b.Polders {
			low = low || p.Sill < level.Hi
		}
		if low {
			continue
		}
		still++
		states, flows, e := basin.Run(b, s, l)
		for i := range l {
			if e != api.OK || !sameState(states[i], s) || !sameFlows(flows[i], api.BsFlows{Taken: make([]int, len(b.Polders))}) {
				t.Fatalf("%v from %v: %v, %v, %d", b, s, states, flows, e)
			}
		}
	}
	if still < 200 {
		t.Errorf("still %d times", still)
	}
}
