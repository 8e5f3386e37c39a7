package tide_test

import (
	"math"
	"math/rand/v2"
	"reflect"
	"slices"
	"testing"

	"barrage/api"
	"barrage/tide"
)

// sp returns a span.
func sp(lo, hi int) api.Span { return api.Span{Lo: lo, Hi: hi} }

// random returns the same numbers in each run of a test.
func random() *rand.Rand { return rand.New(rand.NewPCG(1, 1)) }

// from returns a random number from lo to hi.
func from(r *rand.Rand, lo, hi int) int { return lo + r.IntN(hi-lo+1) }

// moon and pier are the chapter's T and G.
func moon() api.TdTable {
	return api.TdTable{Mean: 100, Consts: []api.TdConst{{Name: "moon", Heights: []int{0, 1000, 0, -1000}, Step: 2, Den: 37, Slack: 10}}}
}

func pier() api.TdGauge {
	return api.TdGauge{
		Name: "pier", Error: 20, Rate: 50,
		Datums:   []api.TdDatum{{}, {From: 100, Shift: sp(30, 40)}},
		Readings: []api.TdReading{{Tick: 90, Value: 500}, {Tick: 110, Value: 640}},
	}
}

// says returns a gauge that says at the tick 110 that the level is from lo to hi.
func says(name string, lo, hi int) api.TdGauge {
	return api.TdGauge{Name: name, Rate: 10, Datums: []api.TdDatum{{Shift: sp(0, hi-lo)}}, Readings: []api.TdReading{{Tick: 110, Value: hi}}}
}

// mute returns a gauge without readings.
func mute(name string) api.TdGauge { return api.TdGauge{Name: name, Datums: []api.TdDatum{{}}} }

// torn returns a gauge that contradicts itself at the tick 110.
func torn(name string) api.TdGauge {
	return api.TdGauge{Name: name, Datums: []api.TdDatum{{}}, Readings: []api.TdReading{{Tick: 109, Value: 0}, {Tick: 110, Value: 1}}}
}

// someTable returns a random table without an error.
func someTable(r *rand.Rand) api.TdTable {
	t := api.TdTable{Mean: from(r, -500, 500)}
	for i := range r.IntN(4) {
		c := api.TdConst{Name: string(rune('a' + i)), Step: from(r, 1, 90), Den: from(r, 1, 12), Slack: from(r, 0, 20)}
		for range from(r, 2, 6) {
			c.Heights = append(c.Heights, from(r, -300, 300))
		}
		c.Offset = r.IntN(c.Den * len(c.Heights))
		t.Consts = append(t.Consts, c)
	}
	return t
}

// someGauge returns a random gauge that reads true levels with a shift and an error; the first reading is at the tick 0, and truth has the levels from there on.
func someGauge(r *rand.Rand, name string, truth []int, rate int) (api.TdGauge, []int) {
	g := api.TdGauge{Name: name, Error: from(r, 0, 15), Rate: rate}
	var shifts []int
	at := 0
	for range from(r, 1, 3) {
		lo := from(r, -40, 40)
		s := sp(lo, lo+from(r, 0, 30))
		g.Datums = append(g.Datums, api.TdDatum{From: at, Shift: s})
		shifts = append(shifts, from(r, s.Lo, s.Hi))
		at += from(r, 1, 12)
	}
	for tick, level := range truth {
		if tick > 0 && r.IntN(3) > 0 {
			continue
		}
		shift := 0
		for i, d := range g.Datums {
			if d.From <= tick {
				shift = shifts[i]
			}
		}
		g.Readings = append(g.Readings, api.TdReading{Tick: tick, Value: level + shift + from(r, -g.Error, g.Error)})
	}
	return g, shifts
}

// someTruth returns random levels that change by at most a rate.
func someTruth(r *rand.Rand, n, rate int) []int {
	l := []int{from(r, -300, 300)}
	for len(l) < n {
		l = append(l, l[len(l)-1]+from(r, -rate, rate))
	}
	return l
}

func copyTable(t api.TdTable) api.TdTable {
	t.Consts = slices.Clone(t.Consts)
	for i := range t.Consts {
		t.Consts[i].Heights = slices.Clone(t.Consts[i].Heights)
	}
	return t
}

func copyGauges(l []api.TdGauge) []api.TdGauge {
	l = slices.Clone(l)
	for i := range l {
		l[i].Datums = slices.Clone(l[i].Datums)
		l[i].Readings = slices.Clone(l[i].Readings)
	}
	return l
}

// extremes are ints in, at and far beyond the limits.
func extremes() []int {
	return []int{math.MinInt, -api.MaxTick - 1, -1, 0, 1, 110, api.MaxTdTicks, api.MaxTdTicks + 1, api.MaxTick, api.MaxTick + 1, math.MaxInt}
}

// callAll calls each function of the package with the arguments; it returns all slices that came of it.
func callAll(table api.TdTable, l []api.TdGauge, levels []api.Span, a, b int) (spans [][]api.Span, ints [][]int) {
	tide.Check(table)
	tide.Level(table, a)
	s, _ := tide.Levels(table, a, b)
	h, _ := tide.High(table, a, b)
	tide.Period(table)
	for _, g := range l {
		tide.CheckGauge(g)
		tide.Says(g, a, b)
		tide.Fit(g, a, b, levels)
		tide.Fit(g, 0, b, levels)
	}
	tide.Sound(l, a, b, a)
	tide.Sound(l, 0, a, b)
	_, others, _ := tide.Agree(l, a, b)
	tide.Residual(table, l, 0, a, b)
	tide.Residual(table, l, a, b, a)
	return [][]api.Span{s}, [][]int{h, others}
}

// P1.15: any arguments are accepted, and not modified; results are new memory.
func TestAnyArguments(t *testing.T) {
	tables := []api.TdTable{{}, moon(), {Mean: math.MaxInt}, {Consts: make([]api.TdConst, 2)}, {Consts: []api.TdConst{{Name: "a", Heights: []int{math.MinInt, math.MaxInt}, Offset: math.MinInt, Step: math.MaxInt, Den: math.MaxInt, Slack: math.MinInt}}}, {Consts: []api.TdConst{{Name: "a", Heights: []int{1, 2}, Offset: math.MaxInt, Step: 1, Den: 1}}}}
	wild := api.TdGauge{Name: "wild", Error: math.MinInt, Rate: math.MaxInt, Datums: []api.TdDatum{{From: math.MaxInt, Shift: sp(math.MaxInt, math.MinInt)}}, Readings: []api.TdReading{{Tick: math.MinInt, Value: math.MaxInt}}}
	gauges := [][]api.TdGauge{nil, {pier(), says("lock", 600, 700), says("weir", 0, 10)}, {{}}, {mute("a"), torn("b")}, {wild}, make([]api.TdGauge, 9)}
	levels := [][]api.Span{nil, {sp(590, 595)}, {sp(math.MaxInt, math.MinInt)}, make([]api.Span, api.MaxTdTicks+1)}
	for _, table := range tables {
		for _, l := range gauges {
			for _, v := range levels {
				for _, a := range extremes() {
					for _, b := range extremes() {
						tableBefore, gaugesBefore, levelsBefore := copyTable(table), copyGauges(l), slices.Clone(v)
						callAll(table, l, v, a, b)
						if !reflect.DeepEqual(table, tableBefore) || !reflect.DeepEqual(l, gaugesBefore) || !reflect.DeepEqual(v, levelsBefore) {
							t.Fatalf("arguments changed: %v, %v, %v, %d, %d", table, l, v, a, b)
						}
					}
				}
			}
		}
	}
}

func TestNewMemory(t *testing.T) {
	table, l, levels := moon(), []api.TdGauge{pier(), says("lock", 600, 700), says("weir", 0, 10)}, []api.Span{sp(590, 595)}
	spans, ints := callAll(table, l, levels, 110, 40)
	want, wantInts := callAll(table, l, levels, 110, 40)
	for _, s := range spans {
		for i := range s {
			s[i] = sp(7, 7)
		}
	}
	for _, s := range ints {
		for i := range s {
			s[i] = 7
		}
	}
	again, againInts := callAll(table, l, levels, 110, 40)
	if !reflect.DeepEqual(again, want) || !reflect.DeepEqual(againInts, wantInts) || !reflect.DeepEqual(table, moon()) || !reflect.DeepEqual(l[0], pier()) {
		t.Errorf("a result shares memory")
	}
}
