package surge_test

import (
	"math/rand/v2"
	"slices"
	"testing"

	"barrage/api"
	"barrage/surge"
	"barrage/tide"
)

// someTask returns a random task of a few ticks and low levels, so that all of its histories can be listed; its ticks are from 10 on.
func someTask(r *rand.Rand) api.SgTask {
	t := api.SgTask{From: 10, Ticks: from(r, 1, 3), Least: -from(r, 0, 3), Most: from(r, 1, 4), Rate: from(r, 1, 6)}
	if r.IntN(2) > 0 {
		t.Table.Consts = []api.TdConst{{Name: "moon", Heights: []int{0, 2}, Step: 1, Den: 2, Slack: from(r, 0, 1)}}
	}
	for i := range max(r.IntN(6)-2, 0) {
		g := api.TdGauge{Name: string(rune('a' + i)), Error: from(r, 0, 2), Rate: from(r, 0, 2), Datums: []api.TdDatum{{}}}
		for tick := from(r, 0, 12); tick < 14; tick += from(r, 1, 5) {
			g.Readings = append(g.Readings, api.TdReading{Tick: tick, Value: from(r, -1, 2)})
		}
		t.Gauges = append(t.Gauges, g)
	}
	t.Wrong = r.IntN(max(len(t.Gauges), 1))
	for i := range min(r.IntN(6), 3) {
		t.Centres = append(t.Centres, api.SgCentre{Name: string(rune('a' + i)), Late: r.IntN(3), Base: r.IntN(2), Growth: r.IntN(2)})
	}
	t.Quorum = min([]int{0, 1, 1, 2, 3}[r.IntN(5)], len(t.Centres))
	for issued := 0; issued < 16 && len(t.Centres) > 0; issued += from(r, 1, 4) {
		f := api.SgForecast{Centre: r.IntN(len(t.Centres)), Issued: issued, From: from(r, 9, 11)}
		n := from(r, 1, 4)
		for range from(r, 1, 3) {
			f.Members = append(f.Members, someValues(r, n, 3))
		}
		t.Forecasts = append(t.Forecasts, f)
	}
	r.Shuffle(len(t.Forecasts), func(i, j int) { t.Forecasts[i], t.Forecasts[j] = t.Forecasts[j], t.Forecasts[i] })
	t.Forecasts = t.Forecasts[:min(len(t.Forecasts), api.MaxSgForecasts)]
	return t
}

// someValues returns n random numbers from -most to most.
func someValues(r *rand.Rand, n, most int) []int {
	var l []int
	for range n {
		l = append(l, from(r, -most, most))
	}
	return l
}

// counted is the current forecast of each centre, by the definition (-1: none).
func counted(t api.SgTask, now int) []int {
	var l []int
	for centre, c := range t.Centres {
		best := -1
		for issued := 0; issued+c.Late <= now; issued++ {
			if i := slices.IndexFunc(t.Forecasts, func(f api.SgForecast) bool { return f.Centre == centre && f.Issued == issued }); i >= 0 {
				best = i
			}
		}
		l = append(l, best)
	}
	return l
}

// inTube reports, by the definition, whether a level is in the tube of a member at a tick.
func inTube(t api.SgTask, f api.SgForecast, member []int, tick, level int) bool {
	if tick < f.From || tick >= f.From+len(member) {
		return true
	}
	c := t.Centres[f.Centre]
	wrong := c.Base
	for at := f.Issued; at < tick; at += api.Hour {
		wrong += c.Growth
	}
	x, _ := tide.Level(t.Table, tick)
	v := member[tick-f.From]
	return level >= x.Lo+v-wrong && level <= x.Hi+v+wrong
}

// inBase reports, by the definition, whether a level is in the base at a tick.
func inBase(t api.SgTask, now, tick, level int) bool {
	x, _ := tide.Level(t.Table, tick)
	if level < x.Lo+t.Least || level > x.Hi+t.Most {
		return false
	}
	if len(t.Gauges) == 0 {
		return true
	}
	s, e := tide.Sound(t.Gauges, t.Wrong, tick, now)
	return e == api.ErrDown || level >= s.Lo && level <= s.Hi
}

// entry is a history in the base that keeps the rate, and for each centre the members in whose tube it is.
type entry struct {
	values  []int
	members [][]int
}

// listed returns all histories in the base that keep the rate, by the definitions.
func listed(t api.SgTask, now int) []entry {
	l := [][]int{nil}
	for tick := t.From; tick < t.From+t.Ticks; tick++ {
		var longer [][]int
		for _, values := range l {
			for level := -8; level <= 8; level++ {
				n := len(values)
				if inBase(t, now, tick, level) && (n == 0 || max(level-values[n-1], values[n-1]-level) <= t.Rate) {
					longer = append(longer, append(slices.Clone(values), level))
				}
			}
		}
		l = longer
	}
	var all []entry
	for _, values := range l {
		all = append(all, entry{values, followed(t, now, values)})
	}
	return all
}

// followed returns for each centre the members in whose tube a history is.
func followed(t api.SgTask, now int, values []int) [][]int {
	l := make([][]int, len(t.Centres))
	for centre, current := range counted(t, now) {
		if current < 0 {
			continue
		}
		f := t.Forecasts[current]
		for i, member := range f.Members {
			out := false
			for j, level := range values {
				out = out || !inTube(t, f, member, t.From+j, level)
			}
			if !out {
				l[centre] = append(l[centre], i)
			}
		}
	}
	return l
}

// asked returns how many centres are needed.
func asked(t api.SgTask, now int) int {
	heard := 0
	for _, current := range counted(t, now) {
		if current >= 0 {
			heard++
		}
	}
	return min(t.Quorum, heard)
}

// isPossible reports whether a listed history is possible.
func (x entry) isPossible(needed int) bool {
	right := 0
	for _, members := range x.members {
		if len(members) > 0 {
			right++
		}
	}
	return right >= needed
}

// possible returns those of the listed histories that are possible.
func possible(t api.SgTask, now int) [][]int {
	var l [][]int
	for _, x := range listed(t, now) {
		if x.isPossible(asked(t, now)) {
			l = append(l, x.values)
		}
	}
	return l
}

// hull returns the least and the greatest levels of some histories at each tick.
func hull(l [][]int) (low, high []int) {
	low, high = slices.Clone(l[0]), slices.Clone(l[0])
	for _, values := range l {
		for i, v := range values {
			low[i], high[i] = min(low[i], v), max(high[i], v)
		}
	}
	return low, high
}

// someBoxes returns the boxes, by the definition: what the listed histories reach that are in all tubes of a choice.
func someBoxes(t api.SgTask, now int) []api.SgBox {
	choices := [][]int{nil}
	for range t.Centres {
		var longer [][]int
		for _, c := range choices {
			for member := -1; member < api.MaxSgMembers; member++ {
				longer = append(longer, append(slices.Clone(c), member))
			}
		}
		choices = longer
	}
	all := listed(t, now)
	var l []api.SgBox
	for _, c := range choices {
		chosen := 0
		for _, member := range c {
			if member >= 0 {
				chosen++
			}
		}
		var in [][]int
		for _, x := range all {
			out := func(centre int) bool { return c[centre] >= 0 && !slices.Contains(x.members[centre], c[centre]) }
			if chosen == asked(t, now) && !slices.ContainsFunc(indices(len(c)), out) {
				in = append(in, x.values)
			}
		}
		if len(in) > 0 {
			low, high := hull(in)
			l = append(l, api.SgBox{Members: c, Low: api.Series{From: t.From, Values: low}, High: api.Series{From: t.From, Values: high}})
		}
	}
	return l
}

func indices(n int) (l []int) {
	for i := range n {
		l = append(l, i)
	}
	return l
}

// P2.2, P2.3, P2.4: against the definitions, history by history.
func TestAgainstDefinitions(t *testing.T) {
	r := random()
	for range 1500 {
		task := someTask(r)
		if part, at, e := surge.Check(task); e != api.OK {
			t.Fatalf("%v: Check = %d, %d, %d", task, part, at, e)
		}
		now := r.IntN(18)
		if l, e := surge.Current(task, now); !slices.Equal(l, counted(task, now)) || e != api.OK {
			t.Fatalf("%v: Current(%d) = %v, %d", task, now, l, e)
		}
		want := someBoxes(task, now)
		boxes, e := surge.Boxes(task, now)
		if !sameBoxes(boxes, want) || e != api.OK {
			t.Fatalf("%v: Boxes(%d) = %v, %d, want %v", task, now, boxes, e, want)
		}
		testHighest(t, task, now, want)
		testBase(t, task, now)
		testSuspects(t, task, now)
	}
}

// testHighest checks what Possible leaves out.
func testHighest(t *testing.T, task api.SgTask, now int, boxes []api.SgBox) {
	t.Helper()
	var want []api.Series
	for i, b := range boxes {
		out := false
		for j, o := range boxes {
			below := slices.ContainsFunc(indices(task.Ticks), func(x int) bool { return o.High.Values[x] < b.High.Values[x] })
			equal := slices.Equal(o.High.Values, b.High.Values)
			out = out || i != j && !below && (!equal || j < i)
		}
		if !out {
			want = append(want, b.High)
		}
	}
	if l, e := surge.Possible(task, now); !sameSeries(l, want) || e != api.OK {
		t.Fatalf("%v: Possible(%d) = %v, %d, want %v", task, now, l, e, want)
	}
}

func testBase(t *testing.T, task api.SgTask, now int) {
	t.Helper()
	s, e := surge.Base(task, now)
	down := false
	for i := range task.Ticks {
		least, most := 99, -99
		for level := -20; level <= 20; level++ {
			if inBase(task, now, task.From+i, level) {
				least, most = min(least, level), max(most, level)
			}
		}
		down = down || least > most
		if e == api.OK && s[i] != sp(least, most) {
			t.Fatalf("%v: Base(%d) = %v", task, now, s)
		}
	}
	if down != (e == api.ErrDown) || !down && len(s) != task.Ticks {
		t.Fatalf("%v: Base(%d) = %v, %d", task, now, s, e)
	}
}

// P2.7, P2.14
func testSuspects(t *testing.T, task api.SgTask, now int) {
	t.Helper()
	all := listed(task, now)
	var want []int
	for centre, current := range counted(task, now) {
		if current >= 0 && !slices.ContainsFunc(all, func(x entry) bool { return len(x.members[centre]) > 0 }) {
			want = append(want, centre)
		}
	}
	if l, e := surge.Suspects(task, now); !slices.Equal(l, want) || e != api.OK {
		t.Fatalf("%v: Suspects(%d) = %v, %d, want %v", task, now, l, e, want)
	}
}

// P2.5, P2.9, P2.10
func TestHighest(t *testing.T) {
	r := random()
	for range 1500 {
		task, now := someTask(r), r.IntN(18)
		all := possible(task, now)
		low, high, e := surge.Envelope(task, now)
		peak, f := surge.Peak(task, now)
		if len(all) == 0 {
			if e != api.ErrDown || f != api.ErrDown {
				t.Fatalf("%v: Envelope: %d, Peak: %d", task, e, f)
			}
			continue
		}
		least, most := hull(all)
		if e != api.OK || !slices.Equal(low.Values, least) || !slices.Equal(high.Values, most) || low.From != task.From || high.From != task.From {
			t.Fatalf("%v: Envelope(%d) = %v, %v, %d", task, now, low, high, e)
		}
		want := sp(99, -99)
		tops, _ := surge.Possible(task, now)
		for _, values := range all {
			want = sp(min(want.Lo, slices.Max(values)), max(want.Hi, slices.Max(values)))
			below := func(s api.Series) bool {
				return !slices.ContainsFunc(indices(task.Ticks), func(i int) bool { return values[i] > s.Values[i] })
			}
			if !slices.ContainsFunc(tops, below) {
				t.Fatalf("%v: %v is above all of %v", task, values, tops)
			}
		}
		if peak != want || f != api.OK {
			t.Fatalf("%v: Peak(%d) = %v, %d, want %v", task, now, peak, f, want)
		}
		boxes, _ := surge.Boxes(task, now)
		for _, b := range boxes {
			tops = append(tops, b.Low, b.High)
		}
		for _, s := range tops {
			if is, e := surge.Is(task, now, s); !is || e != api.OK {
				t.Fatalf("%v: Is(%d) of %v = %t, %d", task, now, s, is, e)
			}
		}
	}
}

// P2.6, P2.7: histories one by one, also those that are not in the base.
func TestEachHistory(t *testing.T) {
	r := random()
	for range 1000 {
		task, now := someTask(r), r.IntN(18)
		all := possible(task, now)
		for range 30 {
			values := someValues(r, task.Ticks, 6)
			if len(all) > 0 && r.IntN(2) > 0 {
				values = slices.Clone(all[r.IntN(len(all))])
				values[r.IntN(len(values))] += from(r, -1, 1)
			}
			is := slices.ContainsFunc(all, func(o []int) bool { return slices.Equal(o, values) })
			s := api.Series{From: task.From, Values: values}
			if got, e := surge.Is(task, now, s); got != is || e != api.OK {
				t.Fatalf("%v: Is(%d) of %v = %t, %d", task, now, values, got, e)
			}
			right, e := surge.Right(task, now, s)
			for centre, members := range followed(task, now, values) {
				if right[centre] != (len(members) > 0) || e != api.OK {
					t.Fatalf("%v: Right(%d) of %v = %v, %d", task, now, values, right, e)
				}
			}
		}
		then := r.IntN(18)
		tops, _ := surge.Possible(task, then)
		var want []int
		for i, s := range tops {
			if !slices.ContainsFunc(all, func(o []int) bool { return slices.Equal(o, s.Values) }) {
				want = append(want, i)
			}
		}
		if l, e := surge.Ruled(task, then, now); !slices.Equal(l, want) || e != api.OK {
			t.Fatalf("%v: Ruled(%d, %d) = %v, %d, want %v", task, then, now, l, e, want)
		}
	}
}
