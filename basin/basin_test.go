package basin_test

import (
	"slices"
	"testing"

	"barrage/api"
	"barrage/basin"
)

// P4.2
func TestLevel(t *testing.T) {
	low := changed(pond(), func(b *api.BsBasin) { b.Rows[0].Volume, b.Rows[0].Level = 7, -1000 })
	steep := changed(pond(), func(b *api.BsBasin) { b.Rows[0].Level, b.Rows[1] = -20000, api.BsRow{Level: 20000, Volume: 1} })
	for i, c := range []struct {
		b      api.BsBasin
		volume int
		want   api.Span
	}{
		{bay(), 1000000, sp(0, 0)}, {bay(), 1307000, sp(153, 154)}, {bay(), 1306000, sp(153, 153)}, {bay(), 1308000, sp(154, 154)},
		{bay(), 0, sp(-1000, -1000)}, {bay(), 1, sp(-1000, -999)}, {bay(), 999, sp(-1000, -999)}, {bay(), 1000, sp(-999, -999)}, {bay(), 999999, sp(-1, 0)}, {bay(), 1000001, sp(0, 1)},
		// Above the last row it goes on as between the last two.
		{bay(), 4999999, sp(1999, 2000)}, {bay(), 5000000, sp(2000, 2000)}, {bay(), 5000001, sp(2000, 2001)}, {bay(), 1000000000, sp(499500, 499500)},
		{pond(), 0, sp(0, 0)}, {pond(), 9999, sp(999, 1000)}, {pond(), 10001, sp(1000, 1001)}, {pond(), 1000000000, sp(100000000, 100000000)},
		{low, 7, sp(-1000, -1000)}, {low, 8, sp(-1000, -999)}, {low, 10000, sp(1000, 1000)},
		{steep, 0, sp(-20000, -20000)}, {steep, 1, sp(20000, 20000)}, {steep, 1000000000, sp(39999999980000, 39999999980000)},
	} {
		if s, e := basin.Level(c.b, c.volume); s != c.want || e != api.OK {
			t.Errorf("%d: Level of %d = %v, %d, want %v", i, c.volume, s, e, c.want)
		}
	}
}

func TestVolume(t *testing.T) {
	steep := api.BsBasin{Rows: []api.BsRow{{}, {Level: 7, Volume: 3}, {Level: 8, Volume: 100}}}
	for i, c := range []struct {
		b           api.BsBasin
		level, want int
	}{
		{bay(), 153, 1306000}, {bay(), -1000, 0}, {bay(), -999, 1000}, {bay(), -1, 999000}, {bay(), 0, 1000000}, {bay(), 1, 1002000}, {bay(), 1999, 4998000}, {bay(), 2000, 5000000}, {bay(), 2001, 5002000}, {bay(), 20000, 41000000},
		{steep, 0, 0}, {steep, 1, 0}, {steep, 2, 0}, {steep, 3, 1}, {steep, 4, 1}, {steep, 5, 2}, {steep, 6, 2}, {steep, 7, 3}, {steep, 8, 100}, {steep, 9, 197},
		// At most MaxVolume.
		{api.BsBasin{Rows: []api.BsRow{{Volume: 999999990}, {Level: 5, Volume: 1000000000}}}, 5, 1000000000},
		{api.BsBasin{Rows: []api.BsRow{{Volume: 999999990}, {Level: 5, Volume: 999999999}}}, 5, 999999999},
		{api.BsBasin{Rows: []api.BsRow{{Volume: 999999990}, {Level: 5, Volume: 999999999}}}, 6, 1000000000},
		{api.BsBasin{Rows: []api.BsRow{{}, {Level: 1, Volume: 1000000000}}}, 20000, 1000000000},
	} {
		if n, e := basin.Volume(c.b, c.level); n != c.want || e != api.OK {
			t.Errorf("%d: Volume at %d = %d, %d, want %d", i, c.level, n, e, c.want)
		}
	}
}

// P4.3: the chapter's examples.
func TestStep(t *testing.T) {
	second := state(1568853, 29797, 0)
	isStep(t, bay(), start(), surge(), state(1307000, 0, 0), api.BsFlows{River: 60000, Leak: 247000, Taken: []int{0, 0}})
	isStep(t, bay(), state(1307000, 0, 0), surge(), second, api.BsFlows{River: 60000, Leak: 231650, Taken: []int{29797, 0}})
	isStep(t, bay(), start(), api.BsTick{Outer: 3100}, state(1357500, 0, 0), api.BsFlows{Over: 50000, Leak: 307500, Taken: []int{0, 0}})
	isStep(t, bay(), start(), api.BsTick{Outer: -500, Out: 2000000}, state(0, 0, 0), api.BsFlows{Leak: -50000, Out: 950000, Taken: []int{0, 0}})
}

// Water runs over above the crest only, by whole mm.
func TestOver(t *testing.T) {
	b := changed(pond(), func(b *api.BsBasin) { b.Crest, b.Over = -50, 7 })
	for outer, over := range map[int]int{-20000: 0, -51: 0, -50: 0, -49: 7, 0: 350, 20000: 140350} {
		isStep(t, b, state(100), api.BsTick{Outer: outer}, state(100+over), api.BsFlows{Over: over})
	}
	b.Over = 0
	isStep(t, b, state(100), api.BsTick{Outer: 20000}, state(100), api.BsFlows{})
}

// Leaks are rounded down, both ways, and leave the volume of the first row.
func TestLeak(t *testing.T) {
	b := changed(pond(), func(b *api.BsBasin) { b.Rows[0], b.Rows[1].Level, b.Leak = api.BsRow{Level: -30, Volume: 40}, 966, 3 })
	for _, c := range []struct{ volume, outer, leak int }{
		// The level is -30 + (volume - 40) / 10.
		{1040, 70, 0}, {1040, 71, 3}, {1040, 69, -3}, {1041, 71, 2}, {1041, 70, -1}, {1043, 71, 2}, {1044, 71, 1}, {1049, 70, -3}, {1049, 71, 0},
		{40, -30, 0}, {40, -31, 0}, {40, -20000, 0}, {41, -20000, -1}, {41, -30, -1}, {49, -33, -9}, {50, -33, -10}, {50, -34, -10}, {60, -34, -18}, {40, 20000, 60090},
	} {
		isStep(t, b, state(c.volume), api.BsTick{Outer: c.outer}, state(c.volume+c.leak), api.BsFlows{Leak: c.leak})
	}
	// It leaks by the level after the river came, and what ran over.
	b.Over, b.Crest = 5, 60
	isStep(t, b, state(940), api.BsTick{Outer: 70, River: 100}, state(940+100+50-15), api.BsFlows{River: 100, Over: 50, Leak: -15})
}

// What is to run off does if it is there.
func TestOut(t *testing.T) {
	b := changed(pond(), func(b *api.BsBasin) { b.Rows[0].Volume = 40 })
	for _, c := range []struct{ volume, river, out, off int }{
		{100, 0, 0, 0}, {100, 0, 59, 59}, {100, 0, 60, 60}, {100, 0, 61, 60}, {100, 7, 61, 61}, {100, 0, 10000000, 60}, {40, 0, 5, 0}, {40, 5, 5, 5}, {40, 5, 6, 5},
	} {
		isStep(t, b, state(c.volume), api.BsTick{River: c.river, Out: c.out}, state(c.volume+c.river-c.off), api.BsFlows{River: c.river, Out: c.off})
	}
}

// Polders take by the level that is left, as far as there is room.
func TestPolders(t *testing.T) {
	b := pond(api.BsPolder{Name: "a", Sill: 100, Take: 4, Room: 50}, api.BsPolder{Name: "b", Sill: 99, Take: 10, Room: 30}, api.BsPolder{Name: "c", Sill: 0, Take: 0, Room: 9})
	for _, c := range []struct {
		volume, fa, fb int
		ta, tb         int
	}{
		{990, 0, 0, 0, 0}, {991, 0, 0, 0, 1}, {1000, 0, 0, 0, 10}, {1001, 0, 0, 0, 11}, {1002, 0, 0, 0, 12}, {1003, 0, 0, 1, 12}, {1005, 0, 0, 2, 13},
		{1030, 0, 0, 12, 28}, {1030, 47, 0, 3, 30}, {1030, 50, 0, 0, 30}, {1030, 39, 29, 11, 1}, {1030, 0, 30, 12, 0}, {5000, 0, 0, 50, 30}, {5000, 50, 30, 0, 0},
	} {
		isStep(t, b, state(c.volume, c.fa, c.fb, 5), api.BsTick{}, state(c.volume-c.ta-c.tb, c.fa+c.ta, c.fb+c.tb, 5), api.BsFlows{Taken: []int{c.ta, c.tb, 0}})
	}
	// They take what what runs off has left.
	isStep(t, b, state(1000, 0, 0, 0), api.BsTick{River: 60, Out: 30}, state(1030-12-28, 12, 28, 0), api.BsFlows{River: 60, Out: 30, Taken: []int{12, 28, 0}})
}

// More than MaxVolume there must not be, after what comes first, and even if it runs off again.
func TestTooMuch(t *testing.T) {
	most := api.MaxVolume
	// The levels are 0 to 1000, and at MaxVolume 1000.
	full := api.BsBasin{Rows: []api.BsRow{{}, {Level: 1000, Volume: most}}, Leak: 10000, Crest: 500, Over: 100, Polders: []api.BsPolder{{Name: "a", Take: 10000, Room: most}}}
	for i, c := range []struct {
		volume int
		x      api.BsTick
		e      api.Errno
	}{
		{most, api.BsTick{Outer: 400}, api.OK}, {most - 60, api.BsTick{Outer: 400, River: 60}, api.OK}, {most - 60, api.BsTick{Outer: 400, River: 61}, api.ErrLong},
		{most, api.BsTick{Outer: 400, River: 1, Out: 10000000}, api.ErrLong}, {most, api.BsTick{Outer: -20000, River: 1, Out: 10000000}, api.ErrLong},
		{most - 40000, api.BsTick{Outer: 900, Out: 10000000}, api.OK}, {most - 39999, api.BsTick{Outer: 900, Out: 10000000}, api.ErrLong}, {most - 40060, api.BsTick{Outer: 900, River: 60}, api.OK}, {most - 40060, api.BsTick{Outer: 900, River: 61}, api.ErrLong},
		{most - 50100, api.BsTick{Outer: 1001, Out: 10000000}, api.ErrLong}, {most - 50100, api.BsTick{Outer: 1000}, api.OK}, {most - 50100 - 10101, api.BsTick{Outer: 1001}, api.OK}, {most - 50100 - 10100, api.BsTick{Outer: 1001}, api.ErrLong},
	} {
		s, f, e := basin.Step(full, state(c.volume, 0), c.x)
		if e != c.e || e != api.OK && (!sameState(s, api.BsState{}) || !sameFlows(f, api.BsFlows{})) {
			t.Errorf("%d: Step = %v, %v, %d, want %d", i, s, f, e, c.e)
		}
	}
}

func TestRun(t *testing.T) {
	states, flows, e := basin.Run(bay(), start(), all(2, surge()))
	if e != api.OK || len(states) != 2 || len(flows) != 2 || !sameState(states[0], state(1307000, 0, 0)) || !sameState(states[1], state(1568853, 29797, 0)) ||
		!sameFlows(flows[0], api.BsFlows{River: 60000, Leak: 247000, Taken: []int{0, 0}}) || !sameFlows(flows[1], api.BsFlows{River: 60000, Leak: 231650, Taken: []int{29797, 0}}) {
		t.Errorf("Run = %v, %v, %d", states, flows, e)
	}
	if states, flows, e := basin.Run(bay(), start(), nil); len(states) != 0 || len(flows) != 0 || e != api.OK {
		t.Errorf("Run = %v, %v, %d", states, flows, e)
	}
	if states, flows, e := basin.Run(bay(), start(), make([]api.BsTick, 300)); len(states) != 300 || len(flows) != 300 || e != api.OK {
		t.Errorf("Run of 300 ticks: %d states, %d flows, %d", len(states), len(flows), e)
	}
}

// P4.4
func TestStay(t *testing.T) {
	ebb := append(all(3, surge()), all(9, api.BsTick{Outer: -1000})...)
	for i, c := range []struct {
		l           []api.BsTick
		limit, want int
	}{
		{all(3, surge()), 285, 2}, {all(3, surge()), 284, 1}, {all(3, surge()), 154, 1}, {all(3, surge()), 153, 0}, {all(3, surge()), -1000, 0}, {all(3, surge()), 20000, 3},
		{nil, -1000, 0}, {all(2, surge()), 285, 2}, {ebb, 284, 1}, {ebb, 20000, 12},
		// The level after a tick counts, not the one before, nor the one with the river alone.
		{[]api.BsTick{{River: 400000, Out: 400000}}, 0, 1}, {[]api.BsTick{{River: 2000}}, 0, 0}, {[]api.BsTick{{River: 2000}}, 1, 1}, {[]api.BsTick{{River: 2001}}, 1, 1}, {[]api.BsTick{{Out: 1}, {}}, -1, 0},
	} {
		if n, e := basin.Stay(bay(), start(), c.l, c.limit); n != c.want || e != api.OK {
			t.Errorf("%d: Stay = %d, %d, want %d", i, n, e, c.want)
		}
	}
	// An exact level just above the limit is not within it, and one just at it is.
	for volume, want := range map[int]int{9999: 1, 10000: 1, 10001: 0} {
		if n, e := basin.Stay(pond(), state(volume), make([]api.BsTick, 1), 1000); n != want || e != api.OK {
			t.Errorf("Stay from %d = %d, %d, want %d", volume, n, e, want)
		}
	}
}

// P4.5
func TestFloods(t *testing.T) {
	for i, c := range []struct {
		s    api.BsState
		l    []api.BsTick
		want []int
	}{
		{start(), nil, []int{-1, -1}}, {start(), all(1, surge()), []int{-1, -1}}, {start(), all(2, surge()), []int{1, -1}}, {start(), all(3, surge()), []int{1, -1}},
		{state(1000000, 50000, 0), all(3, surge()), []int{-1, -1}}, {state(4000000, 50000, 0), all(1, surge()), []int{-1, 0}}, {state(4000000, 0, 400000), all(2, surge()), []int{0, -1}},
		{state(4000000, 0, 399999), []api.BsTick{{Out: 2000000}, {River: 2000000}, {River: 2000000}}, []int{0, 1}},
	} {
		if l, e := basin.Floods(bay(), c.s, c.l); !slices.Equal(l, c.want) || e != api.OK {
			t.Errorf("%d: Floods = %v, %d, want %v", i, l, e, c.want)
		}
	}
	// A level above the sill from which less than a m3 runs does not flood.
	b := pond(api.BsPolder{Name: "a", Sill: 100, Take: 4, Room: 5})
	for volume, want := range map[int]int{1002: -1, 1003: 0} {
		if l, e := basin.Floods(b, state(volume, 0), make([]api.BsTick, 1)); !slices.Equal(l, []int{want}) || e != api.OK {
			t.Errorf("Floods from %d = %v, %d, want %d", volume, l, e, want)
		}
	}
	if l, e := basin.Floods(pond(), state(0), all(2, surge())); len(l) != 0 || e != api.OK {
		t.Errorf("Floods = %v, %d", l, e)
	}
}

// P4.6
func TestNeed(t *testing.T) {
	much := api.MaxFlow
	for i, c := range []struct {
		volume int
		l      []api.BsTick
		limit  int
		want   int
		e      api.Errno
	}{
		{1000, nil, 0, 0, api.OK}, {1000, []api.BsTick{{}}, 100, 0, api.OK}, {1000, []api.BsTick{{}}, 99, 10, api.OK}, {1001, []api.BsTick{{}}, 100, 1, api.OK}, {1000, []api.BsTick{{}}, 0, 1000, api.OK},
		{1000, []api.BsTick{{River: 7}, {River: 90}}, 100, 49, api.OK}, {1000, []api.BsTick{{River: 90}, {River: 7}}, 100, 90, api.OK}, {1000, []api.BsTick{{River: 90, Out: 85}, {River: 7}}, 100, 6, api.OK},
		// Without enough in the basin it does not all run off.
		{10, []api.BsTick{{Out: 9}, {River: 50}}, 2, 30, api.OK},
		// An Out that would be above MaxFlow is MaxFlow.
		{20000020, []api.BsTick{{Out: much - 3}, {Out: much}}, 1000, 0, api.ErrDown}, {10000020, []api.BsTick{{Out: much - 3}, {Out: much}}, 2, 3, api.OK}, {10000021, []api.BsTick{{Out: much - 3}, {Out: much}}, 2, 0, api.ErrDown},
		{10000000, []api.BsTick{{}}, 0, much, api.OK}, {10000001, []api.BsTick{{}}, 0, 0, api.ErrDown}, {10000001, []api.BsTick{{}}, 1, much - 9, api.OK},
	} {
		if n, e := basin.Need(pond(), state(c.volume), c.l, c.limit); n != c.want || e != c.e {
			t.Errorf("%d: Need = %d, %d, want %d, %d", i, n, e, c.want, c.e)
		}
	}
}

func TestSpare(t *testing.T) {
	much := api.MaxFlow
	for i, c := range []struct {
		volume int
		l      []api.BsTick
		limit  int
		want   int
		e      api.Errno
	}{
		{1000, nil, 0, much, api.OK}, {1000, []api.BsTick{{}}, 100, 0, api.OK}, {1000, []api.BsTick{{}}, 99, 0, api.ErrDown}, {1001, []api.BsTick{{}}, 100, 0, api.ErrDown}, {999, []api.BsTick{{}}, 100, 1, api.OK},
		{1000, []api.BsTick{{River: 7}, {River: 90}}, 200, 451, api.OK}, {1000, []api.BsTick{{Out: 50}, {Out: 3}}, 100, 26, api.OK}, {1000, []api.BsTick{{Out: 5}, {Out: 500}}, 100, 5, api.OK},
		// Up to MaxFlow, also of the sums.
		{0, []api.BsTick{{Out: much}}, 0, much, api.OK}, {0, []api.BsTick{{Out: much}, {River: 8, Out: much}}, 0, much - 8, api.OK}, {0, []api.BsTick{{River: much, Out: much}, {Out: much}}, 0, 0, api.OK},
		{1, []api.BsTick{{Out: much}}, 0, much - 1, api.OK},
	} {
		if n, e := basin.Spare(pond(), state(c.volume), c.l, c.limit); n != c.want || e != c.e {
			t.Errorf("%d: Spare = %d, %d, want %d, %d", i, n, e, c.want, c.e)
		}
	}
	// A Run with an error ends it, too, though the level would be within the limit after the tick.
	wide := api.BsBasin{Rows: []api.BsRow{{}, {Level: 20000, Volume: api.MaxVolume}}}
	if n, e := basin.Spare(wide, state(999999900), []api.BsTick{{Out: much}}, 20000); n != 100 || e != api.OK {
		t.Errorf("Spare = %d, %d", n, e)
	}
}

// P4.7
func TestTotal(t *testing.T) {
	l := []api.BsFlows{{River: 1, Over: 20, Leak: 300, Out: 4000, Taken: []int{50000, 600000}}, {River: 2, Over: 30, Leak: -500, Out: 6000, Taken: []int{-10000, 0}}}
	if f, e := basin.Total(bay(), l); e != api.OK || !sameFlows(f, api.BsFlows{River: 3, Over: 50, Leak: -200, Out: 10000, Taken: []int{40000, 600000}}) {
		t.Errorf("Total = %v, %d", f, e)
	}
	if f, e := basin.Total(bay(), nil); e != api.OK || !sameFlows(f, api.BsFlows{Taken: []int{0, 0}}) {
		t.Errorf("Total = %v, %d", f, e)
	}
	many := all(300, api.BsFlows{River: api.MaxVolume, Over: -api.MaxVolume, Leak: 1})
	if f, e := basin.Total(pond(), many); e != api.OK || !sameFlows(f, api.BsFlows{River: 300000000000, Over: -300000000000, Leak: 300}) {
		t.Errorf("Total = %v, %d", f, e)
	}
}
