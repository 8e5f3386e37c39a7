package basin_test

import (
	"math/rand/v2"
	"reflect"
	"slices"
	"testing"

	"barrage/api"
	"barrage/basin"
)

// random returns the same numbers in each run of a test.
func random() *rand.Rand { return rand.New(rand.NewPCG(4, 4)) }

// from returns a random number from lo to hi.
func from(r *rand.Rand, lo, hi int) int { return lo + r.IntN(hi-lo+1) }

func sp(lo, hi int) api.Span { return api.Span{Lo: lo, Hi: hi} }

// bay is the chapter's B.
func bay() api.BsBasin {
	return api.BsBasin{
		Rows: []api.BsRow{{Level: -1000, Volume: 0}, {Level: 0, Volume: 1000000}, {Level: 2000, Volume: 5000000}},
		Leak: 100, Crest: 3000, Over: 500,
		Polders: []api.BsPolder{{Name: "low", Sill: 200, Take: 300, Room: 50000}, {Name: "high", Sill: 1000, Take: 200, Room: 400000}},
	}
}

// start is the chapter's S.
func start() api.BsState { return state(1000000, 0, 0) }

func state(volume int, filled ...int) api.BsState {
	return api.BsState{Volume: volume, Filled: filled}
}

// surge is the chapter's X.
func surge() api.BsTick { return api.BsTick{Outer: 2500, River: 60000} }

// pond is a basin of 10 m3 for each mm, from 0 at the level 0 on, into which no water leaks.
func pond(polders ...api.BsPolder) api.BsBasin {
	return api.BsBasin{Rows: []api.BsRow{{}, {Level: 1000, Volume: 10000}}, Polders: polders}
}

// changed returns a basin that is changed.
func changed(b api.BsBasin, change func(b *api.BsBasin)) api.BsBasin {
	b = copyBasin(b)
	change(&b)
	return b
}

func all[T any](n int, x T) []T { return slices.Repeat([]T{x}, n) }

func copyBasin(b api.BsBasin) api.BsBasin {
	b.Rows, b.Polders = slices.Clone(b.Rows), slices.Clone(b.Polders)
	return b
}

func copyState(s api.BsState) api.BsState { return state(s.Volume, slices.Clone(s.Filled)...) }

func copyFlows(l []api.BsFlows) []api.BsFlows {
	l = slices.Clone(l)
	for i := range l {
		l[i].Taken = slices.Clone(l[i].Taken)
	}
	return l
}

func sameState(a, b api.BsState) bool {
	return a.Volume == b.Volume && slices.Equal(a.Filled, b.Filled)
}

func sameFlows(a, b api.BsFlows) bool {
	same := slices.Equal(a.Taken, b.Taken)
	a.Taken, b.Taken = nil, nil
	return same && reflect.DeepEqual(a, b)
}

// basins are random basins: each level is one of mm from a span, each volume is less than so many m3 for each mm above the one before it.
type basins struct {
	low, high   int // levels
	rows, gaps  int // numbers of rows; mm between them
	rate, extra int // m3 for each mm: what leaks, or a polder takes, and how much wider the basin is
}

// small are basins of few m3, in which roundings count; large ones are as large as a basin can be.
func small() basins { return basins{low: -300, high: 300, rows: 5, gaps: 60, rate: 12, extra: 9} }

func large() basins {
	return basins{low: api.MinLevel, high: api.MaxLevel, rows: 4, gaps: 13000, rate: api.MaxBsRate, extra: 40000}
}

// one returns a random basin without an error.
func (k basins) one(r *rand.Rand) api.BsBasin {
	b := api.BsBasin{Crest: from(r, k.low, k.high), Over: from(r, 0, k.rate)}
	most := from(r, 0, k.rate)
	b.Leak = from(r, 0, most)
	row := api.BsRow{Level: from(r, k.low, (k.low+k.high)/2), Volume: r.IntN(20)}
	for range from(r, 2, k.rows) {
		b.Rows = append(b.Rows, row)
		gap := from(r, 1, k.gaps)
		row.Level += gap
		row.Volume += most*gap + r.IntN(k.extra*gap) + 1
		if row.Level > api.MaxLevel || row.Volume > api.MaxVolume {
			break
		}
	}
	if len(b.Rows) == 1 {
		return k.one(r)
	}
	for i := range r.IntN(4) {
		sill := from(r, b.Rows[0].Level, max(b.Rows[0].Level, k.high))
		b.Polders = append(b.Polders, api.BsPolder{Name: string(rune('a' + i)), Sill: sill, Take: from(r, 0, most), Room: r.IntN(k.rate * 100)})
	}
	return b
}

// most returns a volume that is not often exceeded.
func most(b api.BsBasin) int {
	last := b.Rows[len(b.Rows)-1].Volume
	return min(last+last/4, api.MaxVolume)
}

// someState returns a random state, now and then with nearly as much water as there can be.
func someState(r *rand.Rand, b api.BsBasin) api.BsState {
	s := state(from(r, b.Rows[0].Volume, most(b)))
	if r.IntN(8) == 0 {
		s.Volume = api.MaxVolume - r.IntN(min(most(b), api.MaxVolume-b.Rows[0].Volume)+1)
	}
	for _, p := range b.Polders {
		s.Filled = append(s.Filled, from(r, 0, p.Room))
	}
	return s
}

// ticks returns n random ticks.
func (k basins) ticks(r *rand.Rand, b api.BsBasin, n int) (l []api.BsTick) {
	much := min(most(b)/4, api.MaxFlow)
	for range n {
		l = append(l, api.BsTick{Outer: from(r, k.low, k.high), River: r.IntN(much + 1), Out: r.IntN(2) * r.IntN(much+1)})
	}
	return l
}

// limit returns a random level that can be a limit.
func (k basins) limit(r *rand.Rand, b api.BsBasin) int {
	return from(r, b.Rows[0].Level, max(b.Rows[0].Level, k.high))
}

// isStep checks that Step does so, without an error.
func isStep(t *testing.T, b api.BsBasin, s api.BsState, x api.BsTick, want api.BsState, flows api.BsFlows) {
	t.Helper()
	if after, f, e := basin.Step(b, s, x); !sameState(after, want) || !sameFlows(f, flows) || e != api.OK {
		t.Errorf("Step of %v by %v = %v, %v, %d, want %v, %v", s, x, after, f, e, want, flows)
	}
}
