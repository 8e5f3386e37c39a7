package runoff_test

import (
	"math"
	"slices"
	"testing"

	"barrage/api"
	"barrage/runoff"
)

// P7.2
func TestWindows(t *testing.T) {
	least, most := math.MinInt, math.MaxInt
	for i, c := range []struct {
		l              []api.Span
		level          int
		sure, possible []int
	}{
		{[]api.Span{sp(-600, -400), sp(400, 600), sp(-100, 100)}, 0, []int{0}, []int{0, 2}},
		{nil, 0, nil, nil}, {[]api.Span{}, 20000, nil, nil},
		// Only below the level water runs off.
		{[]api.Span{sp(7, 7), sp(6, 7), sp(6, 6), sp(7, 8), sp(5, 6), sp(8, 9)}, 7, []int{2, 4}, []int{1, 2, 4}},
		{[]api.Span{sp(least, least), sp(least, most), sp(most, most), sp(least, 19999), sp(20000, most)}, 20000, []int{0, 3}, []int{0, 1, 3}},
		{[]api.Span{sp(-20001, -20001), sp(-20000, -20000), sp(-20001, -20000)}, -20000, []int{0}, []int{0, 2}},
	} {
		if sure, possible, e := runoff.Windows(c.l, c.level); !slices.Equal(sure, c.sure) || !slices.Equal(possible, c.possible) || e != api.OK {
			t.Errorf("%d: Windows = %v, %v, %d, want %v, %v", i, sure, possible, e, c.sure, c.possible)
		}
	}
	if sure, possible, e := runoff.Windows(all(400, sp(0, 1)), 1); len(sure) != 0 || len(possible) != 400 || e != api.OK {
		t.Errorf("Windows of 400 spans: %d, %d, %d", len(sure), len(possible), e)
	}
}

func TestWindowsErrors(t *testing.T) {
	for i, c := range []struct {
		l     []api.Span
		level int
		e     api.Errno
	}{
		{all(401, sp(0, 1)), 1, api.ErrLong}, {all(401, sp(1, 0)), 20001, api.ErrLong},
		{[]api.Span{sp(0, 1), sp(1, 0)}, 1, api.ErrArg}, {[]api.Span{sp(1, 0), sp(0, 1)}, -20001, api.ErrArg}, {[]api.Span{sp(math.MaxInt, math.MinInt)}, 1, api.ErrArg},
		{[]api.Span{sp(-7, 1)}, 20001, api.ErrRange}, {nil, -20001, api.ErrRange}, {nil, math.MinInt, api.ErrRange}, {nil, math.MaxInt, api.ErrRange},
	} {
		if sure, possible, e := runoff.Windows(c.l, c.level); sure != nil || possible != nil || e != c.e {
			t.Errorf("%d: Windows = %v, %v, %d, want %d", i, sure, possible, e, c.e)
		}
	}
}

// isUse checks what Use returns.
func isUse(t *testing.T, k api.RnTask, volume, tick int, before, on []bool, out, energy int, e api.Errno) {
	t.Helper()
	s := api.BsState{Volume: volume}
	if gotOut, gotEnergy, got := runoff.Use(k, s, tick, before, on); gotOut != out || gotEnergy != energy || got != e {
		t.Errorf("Use at %d of %v after %v = %d, %d, %d, want %d, %d, %d", volume, on, before, gotOut, gotEnergy, got, out, energy, e)
	}
}

// P7.3: the chapter's examples.
func TestUse(t *testing.T) {
	isUse(t, example(), 1000000, 0, none(), lock(), 50000, 10, api.OK)
	isUse(t, example(), 1000000, 0, none(), both(), 90000, 22, api.OK)
	isUse(t, example(), 1000000, 1, none(), mill(), 40000, 512, api.OK)
	isUse(t, example(), 1000000, 1, none(), lock(), 0, 0, api.RnErrHead)
	isUse(t, example(), 1000000, 1, none(), both(), 0, 0, api.RnErrHead)
	isUse(t, example(), 1000000, 0, none(), none(), 0, 0, api.OK)
	// The state is the one that is given, and what was on, too.
	isUse(t, changed(example(), func(t *api.RnTask) { t.State.Volume, t.On = 77, both() }), 1002000, 0, none(), lock(), 50100, 10, api.OK)
}

// A sluice by the exact level, rounded down.
func TestSluice(t *testing.T) {
	k := with(pond(), []api.RnSluice{{Name: "a", Width: 7, Move: 9}}, nil)
	for _, c := range []struct {
		volume, outer, out int
		e                  api.Errno
	}{
		// The level is volume / 10.
		{1000, 99, 7, api.OK}, {999, 99, 6, api.OK}, {991, 99, 0, api.OK}, {992, 99, 1, api.OK}, {1001, 100, 0, api.OK}, {1009, 100, 6, api.OK}, {1000, 90, 70, api.OK}, {0, -1, 7, api.OK}, {0, -20000, 140000, api.OK},
		{1000, 100, 0, api.RnErrHead}, {999, 100, 0, api.RnErrHead}, {1000, 101, 0, api.RnErrHead}, {0, 0, 0, api.RnErrHead}, {0, 20000, 0, api.RnErrHead},
	} {
		k.Outer[0] = c.outer
		energy := 0
		if c.e == api.OK {
			energy = 9
		}
		isUse(t, k, c.volume, 0, on("0"), on("1"), c.out, energy, c.e)
	}
	// It takes energy to open it, and to shut it; shut it may be at any level.
	k.Outer[0] = 90
	isUse(t, k, 1000, 0, on("0"), on("0"), 0, 0, api.OK)
	isUse(t, k, 1000, 0, on("1"), on("1"), 70, 0, api.OK)
	isUse(t, k, 1000, 0, on("1"), on("0"), 0, 9, api.OK)
	k.Outer[0] = 110
	isUse(t, k, 1000, 0, on("0"), on("0"), 0, 0, api.OK)
	isUse(t, k, 1000, 0, on("1"), on("0"), 0, 9, api.OK)
	isUse(t, k, 1000, 0, on("1"), on("1"), 0, 0, api.RnErrHead)
	// Also one through which nothing runs.
	k.Sluices[0].Width = 0
	isUse(t, k, 1000, 0, on("0"), on("1"), 0, 0, api.RnErrHead)
	k.Outer[0] = 90
	isUse(t, k, 1000, 0, on("0"), on("1"), 0, 9, api.OK)
}

// A pump lifts by the exact level, rounded up, and starts when it was not on before.
func TestPump(t *testing.T) {
	k := with(pond(), nil, []api.RnPump{{Name: "a", Rate: 50, Base: 30, Lift: 7, Start: 1000}})
	for _, c := range []struct{ volume, outer, energy int }{
		{1000, 100, 30}, {1001, 100, 30}, {999, 100, 31}, {991, 100, 37}, {990, 100, 37}, {989, 100, 38}, {1000, 99, 30}, {1000, -20000, 30}, {1000, 200, 730}, {0, 20000, 140030},
	} {
		k.Outer[0] = c.outer
		isUse(t, k, c.volume, 0, on("1"), on("1"), 50, c.energy, api.OK)
		isUse(t, k, c.volume, 0, on("0"), on("1"), 50, c.energy+1000, api.OK)
		isUse(t, k, c.volume, 0, on("1"), on("0"), 0, 0, api.OK)
		isUse(t, k, c.volume, 0, on("0"), on("0"), 0, 0, api.OK)
	}
}

// All devices together: sluices first, each with what was on of it.
func TestUseOfAll(t *testing.T) {
	k := with(pond(), []api.RnSluice{{Name: "a", Width: 1, Move: 1}, {Name: "b", Width: 10, Move: 10}}, []api.RnPump{{Name: "c", Rate: 30000, Base: 100, Start: 1000}, {Name: "d", Rate: 70000, Base: 10000, Start: 100000}})
	k.Outer[0] = -100
	for _, c := range []struct {
		before, on  string
		out, energy int
	}{
		{"0000", "0000", 0, 0}, {"0000", "1000", 200, 1}, {"0000", "0100", 2000, 10}, {"0000", "0010", 30000, 1100}, {"0000", "0001", 70000, 110000},
		{"1000", "1111", 102200, 111110}, {"0100", "1111", 102200, 111101}, {"0010", "1111", 102200, 110111}, {"0001", "1111", 102200, 11111}, {"1111", "0000", 0, 11}, {"1111", "1111", 102200, 10100}, {"1010", "0101", 72000, 110011},
	} {
		isUse(t, k, 1000, 0, on(c.before), on(c.on), c.out, c.energy, api.OK)
	}
}

// No more than MaxFlow is to run off; the energy is that of all.
func TestMostFlow(t *testing.T) {
	k := with(pond(), []api.RnSluice{{Name: "a", Width: 1, Move: 3}}, []api.RnPump{{Name: "c", Rate: 9999900, Base: 100}, {Name: "d", Rate: 10000000, Base: 7}})
	isUse(t, k, 1000, 0, on("000"), on("010"), 9999900, 100, api.OK)
	isUse(t, k, 990, 0, on("000"), on("110"), 9999999, 103, api.OK)
	isUse(t, k, 1000, 0, on("000"), on("110"), 10000000, 103, api.OK)
	isUse(t, k, 1010, 0, on("000"), on("110"), 10000000, 103, api.OK)
	isUse(t, k, 1000, 0, on("000"), on("001"), 10000000, 7, api.OK)
	isUse(t, k, 1000, 0, on("000"), on("111"), 10000000, 110, api.OK)
}

// The greatest numbers that there are.
func TestUseEnds(t *testing.T) {
	k := with(pond(), []api.RnSluice{{Name: "a", Width: 10000, Move: 100000}, {Name: "b", Width: 10000, Move: 100000}}, []api.RnPump{
		{Name: "c", Rate: 10000000, Base: 100000, Lift: 100000, Start: 100000}, {Name: "d", Rate: 10000000, Base: 100000, Lift: 100000, Start: 100000},
	})
	k.Prices[0] = 10000
	k.Low = -20000
	k.Basin.Rows = []api.BsRow{{Level: -20000}, {Level: 20000, Volume: 1000000000}}
	k.Outer[0] = 20000
	isUse(t, k, 0, 0, on("1100"), on("0011"), 10000000, 200000+2*(200000+4000000000), api.OK)
	k.State.Volume, k.On = 0, on("1100")
	if n, e := runoff.Cost(k, plan(on("0011"))); n != 10000*8000600000 || e != api.OK {
		t.Errorf("Cost = %d, %d", n, e)
	}
	k.Outer[0] = -20000
	isUse(t, k, 1000000000, 0, on("0011"), on("1100"), 10000000, 200000, api.OK)
	k.Basin.Rows[1].Volume = 1
	isUse(t, k, 1000000000, 0, on("0000"), on("1111"), 10000000, 600000, api.OK)
}

// isCheapest checks what Cheapest returns.
func isCheapest(t *testing.T, k api.RnTask, volume, tick int, before []bool, least int, on []bool, energy int, e api.Errno) {
	t.Helper()
	s := api.BsState{Volume: volume}
	if got, gotEnergy, gotE := runoff.Cheapest(k, s, tick, before, least); !slices.Equal(got, on) || gotEnergy != energy || gotE != e {
		t.Errorf("Cheapest at %d for %d after %v = %v, %d, %d, want %v, %d, %d", volume, least, before, got, gotEnergy, gotE, on, energy, e)
	}
}

// P7.4: the chapter's examples.
func TestCheapest(t *testing.T) {
	isCheapest(t, example(), 1000000, 0, none(), 40000, lock(), 10, api.OK)
	isCheapest(t, example(), 1000000, 0, none(), 50001, both(), 22, api.OK)
	isCheapest(t, example(), 1000000, 0, none(), 100000, nil, 0, api.ErrDown)
	isCheapest(t, example(), 1000000, 0, none(), 0, none(), 0, api.OK)
	isCheapest(t, example(), 1000000, 0, none(), 90000, both(), 22, api.OK)
	isCheapest(t, example(), 1000000, 0, none(), 90001, nil, 0, api.ErrDown)
	// When the sluice was open, it takes energy to shut it.
	isCheapest(t, example(), 1000000, 0, lock(), 0, lock(), 0, api.OK)
	// A sluice that must not be on is shut, whatever this takes.
	isCheapest(t, example(), 1000000, 1, lock(), 0, none(), 10, api.OK)
	isCheapest(t, example(), 1000000, 1, lock(), 1, mill(), 522, api.OK)
	isCheapest(t, example(), 1000000, 1, none(), 40001, nil, 0, api.ErrDown)
}

// Of choices that take as much, the first one: off before on.
func TestCheapestOfEqual(t *testing.T) {
	k := with(pond(), []api.RnSluice{{Name: "a", Width: 1, Move: 5}, {Name: "b", Width: 1, Move: 5}}, []api.RnPump{{Name: "c", Rate: 200, Base: 5}, {Name: "d", Rate: 200}})
	k.Outer[0] = -100
	isCheapest(t, k, 1000, 0, on("0000"), 0, on("0000"), 0, api.OK)
	isCheapest(t, k, 1000, 0, on("0000"), 1, on("0001"), 0, api.OK)
	isCheapest(t, k, 1000, 0, on("0000"), 200, on("0001"), 0, api.OK)
	isCheapest(t, k, 1000, 0, on("0000"), 201, on("0011"), 5, api.OK)
	isCheapest(t, k, 1000, 0, on("0000"), 600, on("0111"), 10, api.OK)
	k.Pumps[1].Base = 5
	isCheapest(t, k, 1000, 0, on("0000"), 200, on("0001"), 5, api.OK)
	k.Pumps[1].Base = 6
	isCheapest(t, k, 1000, 0, on("0000"), 200, on("0010"), 5, api.OK)
	k.Pumps[0].Base = 6
	isCheapest(t, k, 1000, 0, on("0000"), 200, on("0100"), 5, api.OK)
	k.Sluices[1].Move = 6
	isCheapest(t, k, 1000, 0, on("0000"), 200, on("1000"), 5, api.OK)
	// At most MaxFlow is asked for.
	k.Pumps[0].Rate = 10000000
	isCheapest(t, k, 1000, 0, on("0000"), 10000000, on("0010"), 6, api.OK)
	k.Pumps[0].Rate = 9999999
	isCheapest(t, k, 1000, 0, on("0000"), 10000000, on("1010"), 11, api.OK)
	// Without devices nothing runs off.
	isCheapest(t, pond(), 1000, 0, nil, 0, nil, 0, api.OK)
	isCheapest(t, pond(), 1000, 0, []bool{}, 1, nil, 0, api.ErrDown)
}

// done is what happens in a tick without polders.
func done(volume, out, energy, cost int) api.RnDone {
	return api.RnDone{State: api.BsState{Volume: volume}, Out: out, Energy: energy, Cost: cost}
}

// isDo checks what Do returns, and the error or the result of Cost.
func isDo(t *testing.T, k api.RnTask, l [][]bool, fault api.Errno, want ...api.RnDone) {
	t.Helper()
	got, gotFault, e := runoff.Do(k, l)
	if !sameDone(got, want) || gotFault != fault || e != api.OK {
		t.Errorf("Do of %v = %v, %d, %d, want %v, %d", l, got, gotFault, e, want, fault)
	}
	sum := 0
	for _, d := range want {
		sum += d.Cost
	}
	if fault != api.OK {
		sum = 0
	}
	if cost, e := runoff.Cost(k, l); cost != sum || e != fault {
		t.Errorf("Cost of %v = %d, %d, want %d, %d", l, cost, e, sum, fault)
	}
}

// P7.5: the chapter's examples.
func TestDo(t *testing.T) {
	isDo(t, example(), plan(none(), none()), api.RnErrHigh, done(1007000, 0, 0, 0))
	isDo(t, example(), plan(lock(), lock()), api.RnErrHead, done(957000, 50000, 10, 10))
	isDo(t, example(), plan(none(), mill()), api.OK, done(1007000, 0, 0, 0), done(1007000+60000+100*(500-34)+50-40000, 40000, 509, 1018))
	isDo(t, example(), plan(lock(), none()), api.OK, done(957000, 50000, 10, 10), done(957000+60000+100*(500-9)+50, 0, 10, 20))
	isDo(t, example(), plan(mill(), none()), api.OK, done(967000, 40000, 12, 12), done(967000+60000+100*(500-14)+50, 0, 0, 0))
	isDo(t, example(), plan(lock(), both()), api.RnErrHead, done(957000, 50000, 10, 10))
	// What was on before the first tick.
	isDo(t, changed(example(), func(t *api.RnTask) { t.On = both() }), plan(both(), none()), api.OK, done(917000, 90000, 5, 5), done(917000+60000+50000+2300, 0, 10, 20))
}

// What happens in a tick has the errors of chapter 4, and then those of the levels, which count after it.
func TestFaults(t *testing.T) {
	k := with(pond(), []api.RnSluice{{Name: "a", Width: 1}}, []api.RnPump{{Name: "b", Rate: 400}})
	k.Low, k.High, k.Outer[0] = 60, 100, 99
	for _, c := range []struct {
		volume, river int
		on            string
		fault         api.Errno
		after, out    int
	}{
		{1000, 0, "00", api.OK, 1000, 0}, {1000, 1, "00", api.RnErrHigh, 0, 0}, {1000, 0, "01", api.OK, 600, 400}, {999, 0, "01", api.RnErrLow, 0, 0}, {999, 1, "01", api.OK, 600, 400},
		{1000, 400, "01", api.OK, 1000, 400}, {1000, 401, "01", api.RnErrHigh, 0, 0}, {1010, 0, "10", api.OK, 1008, 2}, {0, 600, "00", api.OK, 600, 0}, {0, 599, "00", api.RnErrLow, 0, 0},
		// More is to run off than there is.
		{0, 100, "01", api.RnErrLow, 0, 0},
		// By the level before the tick it must not be on, whatever comes after.
		{990, 10, "10", api.RnErrHead, 0, 0}, {0, 0, "10", api.RnErrHead, 0, 0}, {990, 9000, "10", api.RnErrHead, 0, 0}, {991, 9, "10", api.OK, 1000, 0}, {991, 10, "10", api.RnErrHigh, 0, 0},
	} {
		k.State.Volume, k.River[0] = c.volume, c.river
		if c.volume == 1010 {
			k.High = 101
		}
		if c.fault == api.OK {
			isDo(t, k, plan(on(c.on)), api.OK, done(c.after, c.out, 0, 0))
		} else {
			isDo(t, k, plan(on(c.on)), c.fault)
		}
		k.High = 100
	}
}

// More water than the basin has room for: after what must not be on, and before the levels.
func TestRoom(t *testing.T) {
	k := with(pond(), []api.RnSluice{{Name: "a", Width: 1}}, []api.RnPump{{Name: "b", Rate: 10000000}})
	k.Basin.Rows[1] = api.BsRow{Level: 20000, Volume: 1000000000}
	for _, c := range []struct {
		volume, river, outer int
		on                   string
		fault                api.Errno
	}{
		{1000000000, 0, 0, "00", api.OK}, {1000000000, 1, 0, "00", api.RnErrRoom}, {1000000000, 1, 0, "01", api.RnErrRoom}, {999999000, 1001, 0, "11", api.RnErrRoom}, {999999000, 1000, 0, "00", api.OK},
		{1000000000, 1, 20000, "10", api.RnErrHead}, {1000000000, 1, 19999, "10", api.RnErrRoom},
	} {
		k.State.Volume, k.River[0], k.Outer[0] = c.volume, c.river, c.outer
		if l, fault, e := runoff.Do(k, plan(on(c.on))); fault != c.fault || e != api.OK || (len(l) == 0) != (fault != api.OK) {
			t.Errorf("%v: Do = %v, %d, %d, want %d", c, l, fault, e, c.fault)
		}
	}
	// It is not looked at as a level that is too high, or too low.
	k.State.Volume, k.River[0], k.Low, k.High = 1000000000, 1, 0, 0
	isDo(t, k, plan(on("01")), api.RnErrRoom)
	k.Low, k.High = 20000, 20000
	isDo(t, k, plan(on("01")), api.RnErrRoom)
}

// In a tick the polders are flooded, too.
func TestPolders(t *testing.T) {
	k := with(pond(), nil, []api.RnPump{{Name: "a", Rate: 10}})
	k.Basin.Polders, k.State.Filled = []api.BsPolder{{Name: "low", Sill: 90, Take: 2, Room: 30}, {Name: "high", Sill: 97, Take: 5, Room: 40}}, []int{0, 39}
	ticks(&k, 2)
	k.State.Volume, k.High = 1010, 96
	isDo(t, k, plan(on("1"), on("0")), api.RnErrHigh)
	k.High = 98
	isDo(t, k, plan(on("1"), on("0")), api.OK, api.RnDone{State: api.BsState{Volume: 979, Filled: []int{20, 40}}, Out: 10}, api.RnDone{State: api.BsState{Volume: 969, Filled: []int{30, 40}}})
	if l, cost, e := runoff.Best(k); !samePlan(l, plan(on("1"), on("0"))) || cost != 0 || e != api.OK {
		t.Errorf("Best = %v, %d, %d", l, cost, e)
	}
}

// isBest checks what Best returns.
func isBest(t *testing.T, k api.RnTask, want [][]bool, cost int, e api.Errno) {
	t.Helper()
	if got, gotCost, gotE := runoff.Best(k); !samePlan(got, want) || gotCost != cost || gotE != e {
		t.Errorf("Best = %v, %d, %d, want %v, %d, %d", got, gotCost, gotE, want, cost, e)
	}
}

// isLeast checks what Least returns.
func isLeast(t *testing.T, k api.RnTask, l [][]bool, e api.Errno, want ...int) {
	t.Helper()
	if got, gotE := runoff.Least(k, l); !slices.Equal(got, want) || gotE != e {
		t.Errorf("Least along %v = %v, %d, want %v, %d", l, got, gotE, want, e)
	}
}

// P7.6, P7.7: the chapter's examples.
func TestBest(t *testing.T) {
	isBest(t, example(), plan(mill(), none()), 12, api.OK)
	isLeast(t, example(), plan(lock(), none()), api.OK, 12, 20, 0)
	isLeast(t, example(), plan(mill(), none()), api.OK, 12, 0, 0)
	isLeast(t, example(), plan(none(), mill()), api.OK, 12, 1018, 0)
	isLeast(t, example(), plan(none(), none()), api.RnErrHigh)
	isLeast(t, example(), plan(lock(), lock()), api.RnErrHead)
	isLeast(t, changed(example(), func(t *api.RnTask) { t.Low = 2 }), plan(lock(), none()), api.RnErrLow)
	// What is on before makes it cheaper: the sluice stays open, or the pump on.
	isBest(t, changed(example(), func(t *api.RnTask) { t.On = mill() }), plan(mill(), none()), 5, api.OK)
	// From the tick 1 on the sluice that is on must be shut, which the plan has to pay for then.
	isBest(t, changed(example(), func(t *api.RnTask) { t.On = lock() }), plan(lock(), none()), 20, api.OK)
	isBest(t, changed(example(), func(t *api.RnTask) { t.High = 3 }), plan(both(), mill()), 22+1196, api.OK)
	isBest(t, changed(example(), func(t *api.RnTask) { t.Low, t.High = 0, 3 }), nil, 0, api.ErrDown)
	isBest(t, changed(example(), func(t *api.RnTask) { t.Low, t.High = 2000, 20000 }), nil, 0, api.ErrDown)
	isBest(t, changed(example(), func(t *api.RnTask) { t.High = 57 }), plan(none(), none()), 0, api.OK)
	isBest(t, changed(example(), func(t *api.RnTask) { t.River[1] = 10000000 }), nil, 0, api.ErrDown)
}

// Of plans that cost as much, the first one: by the first tick in which they differ, off before on.
func TestBestOfEqual(t *testing.T) {
	k := with(pond(), []api.RnSluice{{Name: "a", Width: 1}, {Name: "b", Width: 1}}, []api.RnPump{{Name: "c", Rate: 200}})
	ticks(&k, 3)
	k.Outer, k.High = all(3, -100), 100
	isBest(t, k, plan(on("000"), on("000"), on("000")), 0, api.OK)
	k.River = []int{0, 150, 0}
	isBest(t, k, plan(on("000"), on("001"), on("000")), 0, api.OK)
	k.River = []int{0, 350, 0}
	isBest(t, k, plan(on("000"), on("011"), on("000")), 0, api.OK)
	k.River = []int{150, 0, 50}
	isBest(t, k, plan(on("001"), on("000"), on("000")), 0, api.OK)
	// With a price the later tick is cheaper, or the earlier one.
	k.Pumps[0].Base, k.Sluices[0].Move, k.Sluices[1].Move = 1, 9, 9
	k.River, k.High, k.Prices = []int{0, 0, 200}, 100, []int{1, 1, 2}
	isBest(t, k, plan(on("000"), on("001"), on("000")), 1, api.OK)
	k.Prices = []int{1, 1, 1}
	isBest(t, k, plan(on("000"), on("000"), on("001")), 1, api.OK)
	k.Prices = []int{1, 2, 2}
	isBest(t, k, plan(on("001"), on("000"), on("000")), 1, api.OK)
	// Energy that costs nothing.
	k.Prices = []int{0, 0, 0}
	isBest(t, k, plan(on("000"), on("000"), on("001")), 0, api.OK)
}

// Tasks without ticks, and without devices.
func TestNothing(t *testing.T) {
	k := changed(example(), func(t *api.RnTask) { ticks(t, 0) })
	isBest(t, k, nil, 0, api.OK)
	isLeast(t, k, nil, api.OK, 0)
	isLeast(t, k, [][]bool{}, api.OK, 0)
	isDo(t, k, nil, api.OK)
	k = pond()
	ticks(&k, 2)
	isBest(t, k, plan(nil, nil), 0, api.OK)
	isLeast(t, k, plan(nil, []bool{}), api.OK, 0, 0, 0)
	isDo(t, k, plan(nil, nil), api.OK, done(1000, 0, 0, 0), done(1000, 0, 0, 0))
	isUse(t, k, 1000, 1, nil, nil, 0, 0, api.OK)
	k.High = 99
	isBest(t, k, nil, 0, api.ErrDown)
	// The level before the first tick may be too high.
	k = with(pond(), nil, []api.RnPump{{Name: "a", Rate: 10}})
	k.High = 99
	isBest(t, k, plan(on("1")), 0, api.OK)
}

// It costs less to pump early, at low water, than later against the head, even at a higher price.
func TestBestPumpsEarly(t *testing.T) {
	k := with(pond(), nil, []api.RnPump{{Name: "a", Rate: 100, Base: 10, Lift: 1, Start: 5}})
	ticks(&k, 6)
	k.Outer, k.River, k.Prices, k.Low, k.High = []int{0, 50, 100, 200, 300, 200}, []int{0, 0, 0, 0, 100, 100}, []int{9, 3, 2, 1, 1, 1}, 81, 100
	// It may be on once before the tick 4: in the tick 2 it takes 15, in the tick 3 115 at half the price.
	off, pump := on("0"), on("1")
	best := plan(off, off, pump, off, off, pump)
	isBest(t, k, best, 30+115, api.OK)
	isLeast(t, k, best, api.OK, 145, 145, 145, 115, 115, 115, 0)
	isLeast(t, k, plan(off, off, off, off, pump, pump), api.OK, 145, 145, 145, 230, 325, 110, 0)
	k.On = pump
	isBest(t, k, best, 145, api.OK)
}
