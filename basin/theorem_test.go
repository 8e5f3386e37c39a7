package basin_test

import (
	"math"
	"math/rand/v2"
	"reflect"
	"slices"
	"testing"

	"barrage/api"
	"barrage/basin"
	"barrage/probe"
)

// wetter returns a state and ticks with no less water in anything, and mostly with more; the first polder is as it was.
func wetter(r *rand.Rand, b api.BsBasin, s api.BsState, l []api.BsTick) (api.BsState, []api.BsTick) {
	s, l = copyState(s), slices.Clone(l)
	few := func(n int) int { return r.IntN(2) * r.IntN(max(n, 0)+1) }
	s.Volume += few(min(most(b)/9, api.MaxVolume-s.Volume))
	for i, p := range b.Polders[min(1, len(b.Polders)):] {
		s.Filled[i+1] += few(p.Room - s.Filled[i+1])
	}
	for i := range l {
		l[i].Outer += few((api.MaxLevel - l[i].Outer) / 20)
		l[i].River += few((api.MaxFlow - l[i].River) / 20)
		l[i].Out -= few(l[i].Out)
	}
	return s, l
}

// P4.9: the states after ticks, what is flooded, and how long the level stays within a limit.
func TestMonotone(t *testing.T) {
	r := random()
	done, longer := 0, 0
	for i := range 10000 {
		b, s, l, limit := someRun(r, []basins{small(), large()}[i%2])
		wetS, wetL := wetter(r, b, s, l)
		states, _, e := basin.Run(b, s, l)
		wetStates, _, wetE := basin.Run(b, wetS, wetL)
		if e != api.OK && wetE == api.OK {
			t.Fatalf("%v: error %d from %v by %v, none from %v by %v", b, e, s, l, wetS, wetL)
		}
		if wetE != api.OK {
			continue
		}
		done++
		for j, wet := range wetStates {
			if wet.Volume < states[j].Volume || slices.ContainsFunc(polderNumbers(b), func(p int) bool { return wet.Filled[p] < states[j].Filled[p] }) {
				t.Fatalf("%v: after %d %v, and with more water %v", b, j, states[j], wet)
			}
		}
		stay, _ := basin.Stay(b, s, l, limit)
		wetStay, _ := basin.Stay(b, wetS, wetL, limit)
		if wetStay > stay {
			t.Fatalf("%v: Stay = %d, and with more water %d", b, stay, wetStay)
		}
		if wetStay < stay {
			longer++
		}
		floods, _ := basin.Floods(b, s, l)
		wetFloods, _ := basin.Floods(b, wetS, wetL)
		for p := range b.Polders {
			if wetS.Filled[p] == s.Filled[p] && floods[p] >= 0 && (wetFloods[p] < 0 || wetFloods[p] > floods[p]) {
				t.Fatalf("%v: Floods = %v, and with more water %v", b, floods, wetFloods)
			}
		}
	}
	if done < 3000 || longer < 100 {
		t.Errorf("%d runs, %d of which stay longer with less water", done, longer)
	}
}

func polderNumbers(b api.BsBasin) (l []int) {
	for p := range b.Polders {
		l = append(l, p)
	}
	return l
}

// P4.9: Need is not less with more water, Spare not greater; ErrDown is more than any Need, and less than any Spare.
func TestMonotoneNeed(t *testing.T) {
	r := random()
	counts := probe.Counts{}
	for i := range 4000 {
		b, s, l, limit := someRun(r, []basins{small(), large()}[i%2])
		wetS, wetL := wetter(r, b, s, l)
		if _, _, e := basin.Run(b, wetS, wetL); e != api.OK {
			continue
		}
		need, e1 := basin.Need(b, s, l, limit)
		wetNeed, e2 := basin.Need(b, wetS, wetL, limit)
		spare, e3 := basin.Spare(b, s, l, limit)
		wetSpare, e4 := basin.Spare(b, wetS, wetL, limit)
		if slices.ContainsFunc([]api.Errno{e1, e2, e3, e4}, func(e api.Errno) bool { return e != api.OK && e != api.ErrDown }) {
			t.Fatalf("%v: errors %d, %d, %d, %d", b, e1, e2, e3, e4)
		}
		if e1 > e2 || e3 > e4 || e2 == api.OK && wetNeed < need || e4 == api.OK && wetSpare > spare {
			t.Fatalf("%v: Need = %d, %d, and with more water %d, %d; Spare = %d, %d, and %d, %d", b, need, e1, wetNeed, e2, spare, e3, wetSpare, e4)
		}
		counts.Note("needs more", e2 == api.OK && wetNeed > need)
		counts.Note("can no more", e1 < e2)
		counts.Note("spares less", e4 == api.OK && wetSpare < spare)
		counts.Note("spares no more", e3 < e4)
	}
	counts.Least(t, 20, "needs more", "can no more", "spares less", "spares no more")
}

// stays reports whether Run has no error, and the level is within the limit in each tick.
func stays(b api.BsBasin, s api.BsState, l []api.BsTick, limit int) bool {
	n, e := basin.Stay(b, s, l, limit)
	return e == api.OK && n == len(l)
}

// drained adds to the Out of each tick, up to MaxFlow.
func drained(l []api.BsTick, more int) []api.BsTick {
	l = slices.Clone(l)
	for i := range l {
		l[i].Out = min(l[i].Out+more, api.MaxFlow)
	}
	return l
}

// swollen adds to the River of each tick.
func swollen(l []api.BsTick, more int) []api.BsTick {
	l = slices.Clone(l)
	for i := range l {
		l[i].River += more
	}
	return l
}

// P4.6, P4.12: Need and Spare.
func TestLeastAndGreatest(t *testing.T) {
	r := random()
	counts := probe.Counts{}
	for i := range 6000 {
		b, s, l, limit := someRun(r, []basins{small(), large()}[i%2])
		_, _, e := basin.Run(b, s, l)
		need, e1 := basin.Need(b, s, l, limit)
		spare, e2 := basin.Spare(b, s, l, limit)
		if e != api.OK {
			if need != 0 || e1 != e || spare != 0 || e2 != e {
				t.Fatalf("%v: Need = %d, %d; Spare = %d, %d; Run: %d", b, need, e1, spare, e2, e)
			}
			continue
		}
		switch {
		case e1 == api.ErrDown && (need != 0 || stays(b, s, drained(l, api.MaxFlow), limit)),
			e1 == api.OK && !stays(b, s, drained(l, need), limit),
			e1 == api.OK && need > 0 && stays(b, s, drained(l, need-1), limit),
			e1 != api.OK && e1 != api.ErrDown, need < 0:
			t.Fatalf("%v: Need from %v by %v within %d = %d, %d", b, s, l, limit, need, e1)
		case e2 == api.ErrDown && (spare != 0 || stays(b, s, l, limit)),
			e2 == api.OK && !stays(b, s, swollen(l, spare), limit),
			e2 == api.OK && spare < api.MaxFlow && stays(b, s, swollen(l, spare+1), limit),
			e2 != api.OK && e2 != api.ErrDown, spare < 0, spare > api.MaxFlow:
			t.Fatalf("%v: Spare from %v by %v within %d = %d, %d", b, s, l, limit, spare, e2)
		}
		counts.Note("needs", e1 == api.OK && need > 0)
		counts.Note("needs nothing", e1 == api.OK && need == 0)
		counts.Note("cannot", e1 == api.ErrDown)
		counts.Note("spares", e2 == api.OK && spare > 0)
		counts.Note("spares nothing", e2 == api.ErrDown)
	}
	counts.Least(t, 100, "needs", "needs nothing", "cannot", "spares", "spares nothing")
}

// P4.6: there is no lesser Need, and no greater Spare, either, of all that there are.
func TestLeastOfAll(t *testing.T) {
	r := random()
	found := 0
	for range 300 {
		b, s, l, limit := someRun(r, small())
		if need, e := basin.Need(b, s, l, limit); e == api.OK && need < 3000 {
			found++
			for n := range need {
				if stays(b, s, drained(l, n), limit) {
					t.Fatalf("%v: Need from %v by %v within %d = %d, and not %d", b, s, l, limit, need, n)
				}
			}
		}
		if spare, e := basin.Spare(b, s, l, limit); e == api.OK {
			found++
			for n := range 1000 {
				if stays(b, s, swollen(l, n), limit) != (n <= spare) {
					t.Fatalf("%v: Spare from %v by %v within %d = %d, and not %d", b, s, l, limit, spare, n)
				}
			}
		}
	}
	if found < 100 {
		t.Errorf("%d found", found)
	}
}

// callAll calls each function of the package, and returns all that came of it.
func callAll(b api.BsBasin, s api.BsState, l []api.BsTick, flows []api.BsFlows, a int) []any {
	part, at, e := basin.Check(b)
	level, e1 := basin.Level(b, a)
	volume, e2 := basin.Volume(b, a)
	e3 := basin.CheckState(b, s)
	states, each, e4 := basin.Run(b, s, l)
	stay, e5 := basin.Stay(b, s, l, a)
	floods, e6 := basin.Floods(b, s, l)
	need, e7 := basin.Need(b, s, l, a)
	spare, e8 := basin.Spare(b, s, l, a)
	total, e9 := basin.Total(b, flows)
	out := []any{part, at, e, level, volume, states, each, stay, floods, need, spare, total, e1, e2, e3, e4, e5, e6, e7, e8, e9}
	for _, x := range l {
		after, f, e := basin.Step(b, s, x)
		out = append(out, after, f, e)
	}
	return out
}

// P4.14: any arguments are accepted, and not modified.
func TestAnyArguments(t *testing.T) {
	least, most := math.MinInt, math.MaxInt
	row := func(level, volume int) api.BsRow { return api.BsRow{Level: level, Volume: volume} }
	list := []api.BsBasin{
		{}, bay(), pond(), {Rows: make([]api.BsRow, 2)}, {Rows: make([]api.BsRow, 13), Polders: make([]api.BsPolder, 7)},
		{Rows: []api.BsRow{row(least, least), row(most, most)}, Leak: most, Crest: least, Over: most},
		{Rows: []api.BsRow{row(most, least), row(least, most)}, Leak: least},
		changed(bay(), func(b *api.BsBasin) { b.Leak, b.Over, b.Crest = most, least, most }),
		changed(bay(), func(b *api.BsBasin) { b.Polders[0] = api.BsPolder{Name: "a", Sill: least, Take: most, Room: least} }),
		changed(bay(), func(b *api.BsBasin) { b.Polders = append(b.Polders, api.BsPolder{}) }),
	}
	states := []api.BsState{{}, start(), state(most), state(least, least, most), state(1000000000, 50000, 400000), state(0, 1, 2, 3, 4, 5, 6, 7)}
	ticks := [][]api.BsTick{nil, {surge(), surge()}, {surge(), {Outer: least, River: most, Out: least}}, {{Outer: most, River: least, Out: most}}, make([]api.BsTick, 301)}
	flows := [][]api.BsFlows{nil, {{Taken: []int{1, 2}}}, {{River: most, Over: least, Leak: most, Out: least, Taken: []int{most, least}}}, make([]api.BsFlows, 301)}
	for _, b := range list {
		for _, s := range states {
			for i, l := range ticks {
				f := flows[i%len(flows)]
				b1, s1, l1, f1 := copyBasin(b), copyState(s), slices.Clone(l), copyFlows(f)
				for _, a := range []int{least, -20001, -1, 0, 100, 20000, 1000000000, most} {
					callAll(b, s, l, f, a)
				}
				if !reflect.DeepEqual(b, b1) || !sameState(s, s1) || !slices.Equal(l, l1) || !slices.EqualFunc(f, f1, sameFlows) {
					t.Fatalf("arguments changed: %v, %v, %v, %v", b, s, l, f)
				}
			}
		}
	}
}

// spoil changes each number in a list of results.
func spoil(out []any) {
	ruin := func(l []int) {
		for i := range l {
			l[i] = 7777
		}
	}
	for _, x := range out {
		switch x := x.(type) {
		case []int:
			ruin(x)
		case api.BsState:
			ruin(x.Filled)
		case api.BsFlows:
			ruin(x.Taken)
		case []api.BsState:
			for i := range x {
				ruin(x[i].Filled)
			}
		case []api.BsFlows:
			for i := range x {
				ruin(x[i].Taken)
			}
		}
	}
}

// P4.14: results are new memory, and nothing is kept between calls.
func TestNewMemory(t *testing.T) {
	b, s, l, flows := bay(), state(1500000, 10, 20), slices.Repeat([]api.BsTick{surge()}, 3), []api.BsFlows{{Taken: []int{1, 2}}}
	call := func() []any { return callAll(b, s, l, flows, 1000) }
	want := call()
	spoil(call())
	if again := call(); !reflect.DeepEqual(again, want) || !reflect.DeepEqual(b, bay()) || !sameState(s, state(1500000, 10, 20)) || !slices.Equal(flows[0].Taken, []int{1, 2}) {
		t.Errorf("a result shares memory with an argument")
	}
	// Nor do two parts of one result.
	states, each, _ := basin.Run(b, s, l)
	for i := range l {
		states[i].Filled[0], each[i].Taken[0] = 7777, 8888
		for j := range l {
			if j != i && (states[j].Filled[0] == 7777 || each[j].Taken[0] == 8888) || states[j].Filled[0] == 8888 {
				t.Errorf("the results of the ticks %d and %d share memory", i, j)
			}
		}
		states[i].Filled[0], each[i].Taken[0] = 0, 0
	}
}
