package basin_test

import (
	"math"
	"slices"
	"strings"
	"testing"

	"barrage/api"
	"barrage/basin"
	"barrage/probe"
)

// P4.1
func TestCheckNumbers(t *testing.T) {
	b := bay()
	look := func() (part, at int, e api.Errno) { return basin.Check(b) }
	e := api.ErrRange
	probe.Ends(t, 2, 0, look, probe.Field("Crest", &b.Crest, -20000, 20000, e), probe.Field("Over", &b.Over, 0, 10000, e))
	for i := range b.Polders {
		p := &b.Polders[i]
		probe.Ends(t, 3, i, look, probe.Field("Sill", &p.Sill, -1000, 20000, e), probe.Field("Room", &p.Room, 0, 1000000000, e))
	}
	// A basin so wide that Leak and Take can be as great as they may.
	b.Rows = []api.BsRow{{Level: -20000}, {Level: 20000, Volume: 1000000000}}
	probe.Ends(t, 2, 0, look, probe.Field("Leak", &b.Leak, 0, 10000, e))
	probe.Ends(t, 3, 1, look, probe.Field("Sill", &b.Polders[1].Sill, -20000, 20000, e), probe.Field("Take", &b.Polders[1].Take, 0, 10000, e))
}

func TestCheckRowNumbers(t *testing.T) {
	for i := range 3 {
		for _, x := range []int{-20001, 20001, math.MinInt, math.MaxInt} {
			testCheck(t, []checkCase{{func(b *api.BsBasin) { b.Rows[i].Level = x }, 1, i, api.ErrRange}})
		}
		for _, x := range []int{-1, 1000000001, math.MinInt, math.MaxInt} {
			testCheck(t, []checkCase{{func(b *api.BsBasin) { b.Rows[i].Volume = x }, 1, i, api.ErrRange}})
		}
	}
}

// rows returns n rows without an error.
func rows(n int) (l []api.BsRow) {
	for i := range n {
		l = append(l, api.BsRow{Level: -1000 + i*500, Volume: i * 1000000})
	}
	return l
}

// polders returns n polders without an error.
func polders(n int) (l []api.BsPolder) {
	for i := range n {
		l = append(l, api.BsPolder{Name: string(rune('a' + i)), Sill: 100 * i, Take: 10 * i, Room: 1000})
	}
	return l
}

// checkCase changes bay, and says what Check returns then.
type checkCase struct {
	change   func(b *api.BsBasin)
	part, at int
	e        api.Errno
}

func testCheck(t *testing.T, l []checkCase) {
	t.Helper()
	for i, c := range l {
		b := changed(bay(), c.change)
		if part, at, e := basin.Check(b); part != c.part || at != c.at || e != c.e {
			t.Errorf("%d: Check = %d, %d, %d, want %d, %d, %d", i, part, at, e, c.part, c.at, c.e)
		}
		if c.e != api.OK {
			testFirst(t, b, c.e)
		}
	}
}

// testFirst checks that the error of a basin comes before all others, with zero values.
func testFirst(t *testing.T, b api.BsBasin, e api.Errno) {
	t.Helper()
	s, l, limit := state(-1, 1, 2, 3), make([]api.BsTick, 301), math.MaxInt
	l[0].Outer = math.MinInt
	level, e1 := basin.Level(b, -1)
	volume, e2 := basin.Volume(b, math.MinInt)
	e3 := basin.CheckState(b, s)
	after, flows, e4 := basin.Step(b, s, l[0])
	states, each, e5 := basin.Run(b, s, l)
	stay, e6 := basin.Stay(b, s, l, limit)
	floods, e7 := basin.Floods(b, s, l)
	need, e8 := basin.Need(b, s, l, limit)
	spare, e9 := basin.Spare(b, s, l, limit)
	total, e10 := basin.Total(b, make([]api.BsFlows, 301))
	for i, got := range []api.Errno{e1, e2, e3, e4, e5, e6, e7, e8, e9, e10} {
		if got != e {
			t.Errorf("%v: error %d of function %d, want %d", b, got, i+1, e)
		}
	}
	isZero := sameState(after, api.BsState{}) && sameFlows(flows, api.BsFlows{}) && sameFlows(total, api.BsFlows{})
	if !isZero || level != sp(0, 0) || volume != 0 || states != nil || each != nil || stay != 0 || floods != nil || need != 0 || spare != 0 {
		t.Errorf("%v: a result is not zero", b)
	}
}

func TestCheckRight(t *testing.T) {
	testCheck(t, []checkCase{
		{func(b *api.BsBasin) {}, 0, 0, api.OK},
		{func(b *api.BsBasin) { b.Rows = rows(2) }, 0, 0, api.OK},
		{func(b *api.BsBasin) { b.Rows = rows(12) }, 0, 0, api.OK},
		{func(b *api.BsBasin) { b.Polders = nil }, 0, 0, api.OK},
		{func(b *api.BsBasin) { b.Polders = polders(6) }, 0, 0, api.OK},
		{func(b *api.BsBasin) { b.Polders[1].Name = strings.Repeat("z", 24) }, 0, 0, api.OK},
		{func(b *api.BsBasin) { *b = pond(); b.Rows[0].Level, b.Rows[1].Level = -20000, 20000 }, 0, 0, api.OK},
		{func(b *api.BsBasin) { *b = pond(); b.Rows[0].Level, b.Rows[1].Level = 19999, 20000 }, 0, 0, api.OK},
		{func(b *api.BsBasin) { *b = pond(); b.Rows[0].Volume, b.Rows[1].Volume = 999999999, 1000000000 }, 0, 0, api.OK},
	})
}

func TestCheckParts(t *testing.T) {
	testCheck(t, []checkCase{
		{func(b *api.BsBasin) { b.Rows = nil }, 1, 0, api.ErrLong},
		{func(b *api.BsBasin) { b.Rows = rows(1) }, 1, 0, api.ErrLong},
		{func(b *api.BsBasin) { b.Rows = rows(13) }, 1, 0, api.ErrLong},
		{func(b *api.BsBasin) { b.Rows[0].Level = -20001 }, 1, 0, api.ErrRange},
		{func(b *api.BsBasin) { b.Rows[2].Volume = 1000000001 }, 1, 2, api.ErrRange},
		{func(b *api.BsBasin) { b.Rows[1].Level = -1000 }, 1, 1, api.ErrArg},
		{func(b *api.BsBasin) { b.Rows[1].Level = -1001 }, 1, 1, api.ErrArg},
		{func(b *api.BsBasin) { b.Rows[1].Level = 2000 }, 1, 2, api.ErrArg},
		{func(b *api.BsBasin) { b.Rows[1].Volume = 0 }, 1, 1, api.ErrArg},
		{func(b *api.BsBasin) { b.Rows[2].Volume = 1000000 }, 1, 2, api.ErrArg},
		{func(b *api.BsBasin) { b.Rows[2].Volume = 999999 }, 1, 2, api.ErrArg},
		{func(b *api.BsBasin) { b.Leak = -1 }, 2, 0, api.ErrRange},
		{func(b *api.BsBasin) { b.Leak = 10001 }, 2, 0, api.ErrRange},
		{func(b *api.BsBasin) { b.Over = 10001 }, 2, 0, api.ErrRange},
		{func(b *api.BsBasin) { b.Crest = 20001 }, 2, 0, api.ErrRange},
		{func(b *api.BsBasin) { b.Polders = polders(7) }, 3, 0, api.ErrLong},
		{func(b *api.BsBasin) { b.Polders[1].Name = "" }, 3, 1, api.ErrForm},
		{func(b *api.BsBasin) { b.Polders[0].Name = "Low" }, 3, 0, api.ErrForm},
		{func(b *api.BsBasin) { b.Polders[0].Name = strings.Repeat("z", 25) }, 3, 0, api.ErrForm},
		{func(b *api.BsBasin) { b.Polders[1].Name = "low" }, 3, 1, api.ErrTwice},
		{func(b *api.BsBasin) { b.Polders = polders(6); b.Polders[5].Name = "c" }, 3, 5, api.ErrTwice},
		{func(b *api.BsBasin) { b.Polders[0].Sill = -1001 }, 3, 0, api.ErrRange},
		{func(b *api.BsBasin) { b.Polders[1].Take = -1 }, 3, 1, api.ErrRange},
		{func(b *api.BsBasin) { b.Polders[1].Take = 10001 }, 3, 1, api.ErrRange},
		{func(b *api.BsBasin) { b.Polders[1].Room = -1 }, 3, 1, api.ErrRange},
	})
}

// Between the rows of bay there are 1000 and 2000 m3 for each mm.
func TestCheckWide(t *testing.T) {
	testCheck(t, []checkCase{
		{func(b *api.BsBasin) { b.Leak = 1000 }, 0, 0, api.OK},
		{func(b *api.BsBasin) { b.Leak = 1001 }, 4, 0, api.ErrArg},
		{func(b *api.BsBasin) { b.Polders[0].Take = 1000 }, 0, 0, api.OK},
		{func(b *api.BsBasin) { b.Polders[0].Take = 1001 }, 4, 0, api.ErrArg},
		{func(b *api.BsBasin) { b.Polders[1].Take = 1000 }, 0, 0, api.OK},
		{func(b *api.BsBasin) { b.Polders[1].Take = 1001 }, 4, 0, api.ErrArg},
		// Each of them alone counts, and not what runs over.
		{func(b *api.BsBasin) { b.Leak, b.Polders[0].Take, b.Polders[1].Take = 1000, 1000, 1000 }, 0, 0, api.OK},
		{func(b *api.BsBasin) { b.Over = 10000 }, 0, 0, api.OK},
		// Each two neighbouring rows count.
		{func(b *api.BsBasin) { b.Leak, b.Rows[2].Volume = 1000, 3000000 }, 0, 0, api.OK},
		{func(b *api.BsBasin) { b.Leak, b.Rows[2].Volume = 1000, 2999999 }, 4, 0, api.ErrArg},
		{func(b *api.BsBasin) { b.Leak, b.Rows[0].Volume = 1000, 1 }, 4, 0, api.ErrArg},
		{func(b *api.BsBasin) { b.Polders[1].Take, b.Rows[2].Volume = 300, 1599999 }, 4, 0, api.ErrArg},
		{func(b *api.BsBasin) { *b = pond(); b.Leak = 10 }, 0, 0, api.OK},
		{func(b *api.BsBasin) { *b = pond(); b.Leak = 11 }, 4, 0, api.ErrArg},
	})
}

// All of one part comes before the next one; the first element with an error decides, and of its errors the one that is named first.
func TestCheckOrder(t *testing.T) {
	testCheck(t, []checkCase{
		{func(b *api.BsBasin) { b.Rows = make([]api.BsRow, 13); b.Rows[0].Level = 20001 }, 1, 0, api.ErrLong},
		{func(b *api.BsBasin) { b.Rows[1].Level, b.Rows[1].Volume = -1000, -1 }, 1, 1, api.ErrRange},
		{func(b *api.BsBasin) { b.Rows[1].Volume, b.Rows[2].Volume = 0, -1 }, 1, 1, api.ErrArg},
		{func(b *api.BsBasin) { b.Rows[1].Volume, b.Rows[2].Level = -1, -1000 }, 1, 1, api.ErrRange},
		{func(b *api.BsBasin) { b.Rows[2].Level, b.Leak = 0, -1 }, 1, 2, api.ErrArg},
		{func(b *api.BsBasin) { b.Crest, b.Polders = -20001, polders(7) }, 2, 0, api.ErrRange},
		{func(b *api.BsBasin) { b.Polders = polders(7); b.Polders[0].Name = "" }, 3, 0, api.ErrLong},
		{func(b *api.BsBasin) { b.Polders[0].Take, b.Polders[1].Name = -1, "" }, 3, 0, api.ErrRange},
		{func(b *api.BsBasin) { b.Polders[1] = api.BsPolder{Name: "", Take: -1} }, 3, 1, api.ErrForm},
		{func(b *api.BsBasin) { b.Polders[1] = api.BsPolder{Name: "low", Take: -1} }, 3, 1, api.ErrTwice},
		{func(b *api.BsBasin) { b.Polders = append(polders(2), polders(2)...); b.Polders[3].Name = "" }, 3, 2, api.ErrTwice},
		{func(b *api.BsBasin) { b.Leak, b.Polders[1].Room = 10000, 1000000001 }, 3, 1, api.ErrRange},
		{func(b *api.BsBasin) { b.Leak, b.Over = 10000, -1 }, 2, 0, api.ErrRange},
	})
}

// P4.3
func TestCheckState(t *testing.T) {
	b := changed(bay(), func(b *api.BsBasin) { b.Rows[0].Volume = 7 })
	for i, c := range []struct {
		b api.BsBasin
		s api.BsState
		e api.Errno
	}{
		{b, state(7, 0, 0), api.OK}, {b, state(1000000000, 50000, 400000), api.OK}, {pond(), state(0), api.OK}, {pond(), api.BsState{Filled: []int{}}, api.OK},
		{b, state(7), api.ErrArg}, {b, state(7, 0), api.ErrArg}, {b, state(7, 0, 0, 0), api.ErrArg}, {pond(), state(0, 0), api.ErrArg},
		{b, state(6, 0, 0), api.ErrRange}, {b, state(1000000001, 0, 0), api.ErrRange}, {b, state(math.MinInt, 0, 0), api.ErrRange}, {b, state(math.MaxInt, 0, 0), api.ErrRange},
		{b, state(7, -1, 0), api.ErrRange}, {b, state(7, 0, -1), api.ErrRange}, {b, state(7, 50001, 0), api.ErrRange}, {b, state(7, 0, 400001), api.ErrRange}, {b, state(7, math.MaxInt, math.MinInt), api.ErrRange},
		{b, state(6, 0), api.ErrArg}, {b, state(7, -1), api.ErrArg},
	} {
		if e := basin.CheckState(c.b, c.s); e != c.e {
			t.Errorf("%d: CheckState = %d, want %d", i, e, c.e)
		}
		if c.e != api.OK {
			testStateFirst(t, c.b, c.s, c.e)
		}
	}
}

// testStateFirst checks that the error of a state comes before those of ticks and limits, with zero values.
func testStateFirst(t *testing.T, b api.BsBasin, s api.BsState, e api.Errno) {
	t.Helper()
	l, limit := make([]api.BsTick, 301), math.MaxInt
	l[0].Outer = math.MinInt
	after, flows, e1 := basin.Step(b, s, l[0])
	states, each, e2 := basin.Run(b, s, l)
	stay, e3 := basin.Stay(b, s, l, limit)
	floods, e4 := basin.Floods(b, s, l)
	need, e5 := basin.Need(b, s, l, limit)
	spare, e6 := basin.Spare(b, s, l, limit)
	for i, got := range []api.Errno{e1, e2, e3, e4, e5, e6} {
		if got != e {
			t.Errorf("%v: error %d of function %d, want %d", s, got, i+1, e)
		}
	}
	isZero := sameState(after, api.BsState{}) && sameFlows(flows, api.BsFlows{})
	if !isZero || states != nil || each != nil || stay != 0 || floods != nil || need != 0 || spare != 0 {
		t.Errorf("%v: a result is not zero", s)
	}
}

// P4.3: the numbers of a tick, with which the river and what runs off move nothing else.
func TestTickNumbers(t *testing.T) {
	x := surge()
	look := func() (part, at int, e api.Errno) {
		after, flows, e := basin.Step(bay(), start(), x)
		if e != api.OK && (!sameState(after, api.BsState{}) || !sameFlows(flows, api.BsFlows{})) {
			t.Errorf("Step by %v = %v, %v, %d", x, after, flows, e)
		}
		return 0, 0, e
	}
	e := api.ErrRange
	probe.Ends(t, 0, 0, look, probe.Field("Outer", &x.Outer, -20000, 20000, e), probe.Field("River", &x.River, 0, 10000000, e), probe.Field("Out", &x.Out, 0, 10000000, e))
}

// runCase is a run, or a limit, with an error.
type runCase struct {
	l     []api.BsTick
	limit int
	e     api.Errno
}

// testRunErrors checks that each function with ticks has the error, with zero values.
func testRunErrors(t *testing.T, b api.BsBasin, s api.BsState, cases []runCase) {
	t.Helper()
	for i, c := range cases {
		states, each, e1 := basin.Run(b, s, c.l)
		stay, e2 := basin.Stay(b, s, c.l, c.limit)
		floods, e3 := basin.Floods(b, s, c.l)
		need, e4 := basin.Need(b, s, c.l, c.limit)
		spare, e5 := basin.Spare(b, s, c.l, c.limit)
		if !slices.Equal([]api.Errno{e1, e2, e3, e4, e5}, all(5, c.e)) {
			t.Errorf("%d: errors %d, %d, %d, %d, %d, want %d", i, e1, e2, e3, e4, e5, c.e)
		}
		if states != nil || each != nil || stay != 0 || floods != nil || need != 0 || spare != 0 {
			t.Errorf("%d: a result is not zero", i)
		}
	}
}

// That there are too many ticks comes before their errors; of these, that of the first tick that has one.
func TestRunErrors(t *testing.T) {
	many := make([]api.BsTick, 301)
	many[0].River = -1
	flood, wild := api.BsTick{River: 6000000}, api.BsTick{Outer: 20001}
	testRunErrors(t, pond(), state(990000000), []runCase{
		{many, 0, api.ErrLong}, {many[:300], 0, api.ErrRange}, {[]api.BsTick{{}, {}, {River: 10000001}}, 0, api.ErrRange},
		{[]api.BsTick{flood, flood, {}}, 1000, api.ErrLong}, {[]api.BsTick{flood, flood, wild}, 1000, api.ErrLong}, {[]api.BsTick{flood, wild, flood}, 1000, api.ErrRange},
	})
	// A tick with both errors has the one that is named first.
	testRunErrors(t, bay(), state(1000000000, 0, 0), []runCase{
		{[]api.BsTick{{River: 1, Outer: 20001}}, 0, api.ErrRange}, {[]api.BsTick{{River: 1}}, 0, api.ErrLong}, {[]api.BsTick{{River: 1, Out: -1}}, 0, api.ErrRange},
	})
}

// P4.4 to P4.6: a limit with an error; in Stay that of Run comes before it, in Need and Spare behind it.
func TestLimitErrors(t *testing.T) {
	long := make([]api.BsTick, 301)
	wild := []api.BsTick{{}, {River: -1}}
	for _, limit := range []int{-1001, 20001, math.MinInt, math.MaxInt} {
		for _, l := range [][]api.BsTick{nil, {surge()}, wild, long} {
			_, _, want := basin.Run(bay(), start(), l)
			if want == api.OK {
				want = api.ErrRange
			}
			stay, e1 := basin.Stay(bay(), start(), l, limit)
			need, e2 := basin.Need(bay(), start(), l, limit)
			spare, e3 := basin.Spare(bay(), start(), l, limit)
			if stay != 0 || need != 0 || spare != 0 || e1 != want || e2 != api.ErrRange || e3 != api.ErrRange {
				t.Errorf("limit %d of %d ticks: %d, %d, %d, errors %d, %d, %d", limit, len(l), stay, need, spare, e1, e2, e3)
			}
		}
	}
	for _, limit := range []int{-1000, 20000} {
		_, e1 := basin.Stay(bay(), start(), nil, limit)
		_, e2 := basin.Need(bay(), start(), nil, limit)
		_, e3 := basin.Spare(bay(), start(), nil, limit)
		if e1 != api.OK || e2 != api.OK || e3 != api.OK {
			t.Errorf("limit %d: errors %d, %d, %d", limit, e1, e2, e3)
		}
	}
}

// P4.7
func TestTotalErrors(t *testing.T) {
	fine, few, many := api.BsFlows{Taken: []int{0, 0}}, api.BsFlows{Taken: []int{0}}, api.BsFlows{Taken: []int{0, 0, 0}}
	wild := api.BsFlows{River: 1000000001, Taken: []int{0, 0}}
	for i, c := range []struct {
		l []api.BsFlows
		e api.Errno
	}{
		{all(300, fine), api.OK}, {all(301, fine), api.ErrLong}, {all(301, few), api.ErrLong}, {append(all(300, fine), wild), api.ErrLong},
		{[]api.BsFlows{fine, few}, api.ErrArg}, {[]api.BsFlows{many}, api.ErrArg}, {[]api.BsFlows{{}}, api.ErrArg},
		{[]api.BsFlows{wild, fine}, api.ErrRange}, {[]api.BsFlows{wild, fine, few}, api.ErrArg}, {[]api.BsFlows{few, wild}, api.ErrArg},
	} {
		total, e := basin.Total(bay(), c.l)
		if e != c.e || e != api.OK && !sameFlows(total, api.BsFlows{}) {
			t.Errorf("%d: Total = %v, %d, want %d", i, total, e, c.e)
		}
	}
	l := []api.BsFlows{fine, {Taken: []int{0, 0}}, fine}
	f := &l[1]
	look := func() (part, at int, e api.Errno) {
		_, e = basin.Total(bay(), l)
		return 0, 0, e
	}
	probe.Ends(t, 0, 0, look,
		probe.Field("River", &f.River, -1000000000, 1000000000, api.ErrRange), probe.Field("Over", &f.Over, -1000000000, 1000000000, api.ErrRange),
		probe.Field("Leak", &f.Leak, -1000000000, 1000000000, api.ErrRange), probe.Field("Out", &f.Out, -1000000000, 1000000000, api.ErrRange),
		probe.Field("Taken", &f.Taken[0], -1000000000, 1000000000, api.ErrRange), probe.Field("Taken", &f.Taken[1], -1000000000, 1000000000, api.ErrRange),
	)
}

// Level and Volume at the ends of what they take.
func TestLevelErrors(t *testing.T) {
	b := changed(bay(), func(b *api.BsBasin) { b.Rows[0].Volume = 7 })
	v, x := 7, -1000
	level := func() (part, at int, e api.Errno) {
		s, e := basin.Level(b, v)
		if e != api.OK && s != sp(0, 0) {
			t.Errorf("Level of %d = %v, %d", v, s, e)
		}
		return 0, 0, e
	}
	volume := func() (part, at int, e api.Errno) {
		n, e := basin.Volume(b, x)
		if e != api.OK && n != 0 {
			t.Errorf("Volume of %d = %d, %d", x, n, e)
		}
		return 0, 0, e
	}
	probe.Ends(t, 0, 0, level, probe.Field("volume", &v, 7, 1000000000, api.ErrRange))
	probe.Ends(t, 0, 0, volume, probe.Field("level", &x, -1000, 20000, api.ErrRange))
}
