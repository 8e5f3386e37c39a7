package closure_test

import (
	"math"
	"slices"
	"testing"

	"barrage/api"
	"barrage/closure"
)

// isDecision checks that Decide returns the decision, and that Accept accepts it.
func isDecision(t *testing.T, k api.ClTask, r api.ClRules, want api.ClDecision) {
	t.Helper()
	if d, e := closure.Decide(k, r); !sameDecision(d, want) || e != api.OK {
		t.Errorf("Decide = %v, %d, want %v", d, e, want)
	}
	if at, e := closure.Accept(k, r, want); at != 0 || e != api.OK {
		t.Errorf("Accept of %v = %d, %d", want, at, e)
	}
}

// witnesses returns them from pairs of a history and a tick.
func witnesses(l ...[2]int) (w []api.ClWitness) {
	for _, x := range l {
		w = append(w, api.ClWitness{History: x[0], At: x[1]})
	}
	return w
}

// peaks returns them from pairs of a tick and a level.
func peaks(l ...[2]int) (p []api.ClPeak) {
	for _, x := range l {
		p = append(p, api.ClPeak{At: x[0], Level: x[1]})
	}
	return p
}

// P5.6: the chapter's examples.
func TestDecide(t *testing.T) {
	isDecision(t, storm(), rules(), decision())
	isDecision(t, storm(), api.ClRules{Count: 2, Early: 3}, api.ClDecision{Plan: not(), Peaks: peaks([2]int{13, 2500}, [2]int{10, 0})})
}

// Witnesses are the first ones: of histories, and of ticks, whether the gates are shut then or not.
func TestWitnesses(t *testing.T) {
	one := api.ClRules{Count: 1, Early: 60}
	late := with(task(pond(), 100, []int{0, 0, 150, 0}), 1, 0, 0, 0, 0)
	isDecision(t, late, one, api.ClDecision{Plan: plan(100, 103), Peaks: peaks([2]int{100, 0}), Later: witnesses([2]int{0, 102}, [2]int{0, 102})})
	// With 110 mm behind the gates it is too late as well.
	filling := with(task(pond(), 100, []int{0, 60, 150, 0}), 0, all(4, 500)...)
	isDecision(t, filling, one, api.ClDecision{Plan: plan(100, 103), Peaks: peaks([2]int{102, 100}), Later: witnesses([2]int{0, 102}, [2]int{0, 102}, [2]int{0, 102})})
	sooner := with(task(pond(), 100, []int{0, 60, 70, 150, 0}), 0, all(5, 300)...)
	isDecision(t, sooner, one, api.ClDecision{Plan: plan(102, 104), Peaks: peaks([2]int{103, 100}), Later: witnesses([2]int{0, 103}, [2]int{0, 103})})
	two := task(pond(), 100, []int{0, 0, 0, 0, 150}, []int{0, 0, 150, 0, 0}, []int{0, 150, 0, 0, 0})
	isDecision(t, two, one, api.ClDecision{Plan: plan(100, 105), Peaks: peaks([2]int{100, 0}, [2]int{100, 0}, [2]int{100, 0}), Later: witnesses([2]int{2, 101}, [2]int{1, 102}, [2]int{1, 102}, [2]int{0, 104})})
	again := task(pond(), 100, []int{0, 101, 0, 102, 0, 0})
	isDecision(t, again, one, api.ClDecision{Plan: plan(100, 104), Peaks: peaks([2]int{100, 0}), Later: witnesses([2]int{0, 101}, [2]int{0, 101}, [2]int{0, 101}, [2]int{0, 101}, [2]int{0, 101})})
	// What is too great is above each limit: at 102 there are 80 m3, and 30 more come.
	full := with(task(tight(), 1500, []int{0, 0, 800, 1501, 0}), 0, 0, 0, 30, 0, 0)
	isDecision(t, full, one, api.ClDecision{Plan: plan(101, 104), Peaks: peaks([2]int{103, 300}), Later: witnesses([2]int{0, 103}, [2]int{0, 103}, [2]int{0, 103})})
}

// Peaks go by the exact levels, and of equal ones the first one counts.
func TestPeaks(t *testing.T) {
	one := api.ClRules{Count: 1, Early: 60}
	up := func(after int, river ...int) api.ClTask {
		return with(task(pond(), 100, []int{20, 150, 0, 0, 101, after}), 0, river...)
	}
	for i, c := range []struct {
		k    api.ClTask
		want api.ClPeak
	}{
		// The gates shut at 100, with 20 mm, and open at 105.
		{up(0, 0, 0, 0, 0, 0, 0), api.ClPeak{At: 100, Level: 20}},
		{up(20, 0, 0, 0, 0, 0, 0), api.ClPeak{At: 100, Level: 20}},
		{up(21, 0, 0, 0, 0, 0, 0), api.ClPeak{At: 105, Level: 21}},
		{up(20, 7, 0, 0, 0, 0, 0), api.ClPeak{At: 101, Level: 21}},
		{up(20, 7, 0, 2, 0, 0, 0), api.ClPeak{At: 103, Level: 21}},
		{up(21, 7, 0, 2, 0, 0, 0), api.ClPeak{At: 105, Level: 21}},
		{up(21, 7, 0, 3, 0, 0, 0), api.ClPeak{At: 103, Level: 21}},
		{up(21, 7, 0, 3, 1, 0, 0), api.ClPeak{At: 104, Level: 22}},
		{up(22, 7, 0, 3, 1, 0, 0), api.ClPeak{At: 105, Level: 22}},
		{up(-1, 0, 0, 0, 0, 1, 99), api.ClPeak{At: 100, Level: 20}},
	} {
		d, e := closure.Decide(c.k, one)
		if !slices.Equal(d.Peaks, []api.ClPeak{c.want}) || e != api.OK || d.Plan != plan(100, 105) {
			t.Errorf("%d: Decide = %v, %d, want %v", i, d, e, c.want)
		}
	}
	// If the gates are not closed, the levels outside are those inside; the basin may be left by more than it gets.
	isDecision(t, task(pond(), 100, []int{0, 5, 5, 3}, []int{-7, -9, -9, -9}), one, api.ClDecision{Plan: not(), Peaks: peaks([2]int{101, 5}, [2]int{100, -7})})
	falling := with(task(pond(), 100, []int{20, 150, 0, 150}), 0, 7, 0, 0, 0)
	falling.Out = 2
	isDecision(t, falling, one, api.ClDecision{Plan: plan(100, 104), Peaks: peaks([2]int{101, 21}), Later: all(3, api.ClWitness{At: 101})})
}

// The rules of what is allowed; closing that is called for, and not possible.
func TestDecideByRules(t *testing.T) {
	early := task(pond(), 100, []int{0, 0, 0, 0, 150})
	for i, c := range []struct {
		k    api.ClTask
		r    api.ClRules
		want api.ClPlan
		e    api.Errno
	}{
		{storm(), api.ClRules{Count: 1, Early: 2}, plan(10, 15), api.OK}, {storm(), api.ClRules{Count: 1, Early: 1}, plan(0, 0), api.ErrDown}, {storm(), api.ClRules{Count: 1}, plan(0, 0), api.ErrDown},
		{changed(storm(), func(t *api.ClTask) { t.Limit = 728 }), rules(), plan(0, 0), api.ErrDown}, {changed(storm(), func(t *api.ClTask) { t.Limit = 729 }), rules(), plan(10, 15), api.OK}, {changed(storm(), func(t *api.ClTask) { t.Limit = 700 }), rules(), plan(0, 0), api.ErrDown},
		{early, api.ClRules{Count: 1, Early: 1}, plan(103, 105), api.OK}, {early, api.ClRules{Count: 1}, plan(0, 0), api.ErrDown}, {early, api.ClRules{Count: 2}, not(), api.OK},
		{with(early, 4, 0, 0, 0, 0, 0), api.ClRules{Count: 1, Early: 60}, plan(0, 0), api.ErrDown}, {with(early, 3, 0, 0, 0, 0, 0), api.ClRules{Count: 1, Early: 4}, plan(100, 105), api.OK}, {with(early, 3, 0, 0, 0, 0, 0), api.ClRules{Count: 1, Early: 3}, plan(0, 0), api.ErrDown},
		{with(early, 30, 0, 0, 0, 0, 0), api.ClRules{Count: 1, Early: 60}, plan(0, 0), api.ErrDown}, {with(early, 30, 0, 0, 0, 0, 0), api.ClRules{Count: 2, Early: 60}, not(), api.OK},
		{apart(), api.ClRules{Count: 1, Early: 60}, plan(0, 0), api.ErrDown}, {apart(), api.ClRules{Count: 2, Early: 60}, plan(0, 0), api.ErrDown}, {apart(), api.ClRules{Count: 3, Early: 60}, not(), api.OK},
		{with(apart(), 0, all(7, 200)...), api.ClRules{Count: 2, Early: 60}, plan(101, 105), api.OK}, {with(apart(), 0, all(7, 200)...), api.ClRules{Count: 2, Early: 1}, plan(101, 105), api.OK},
		{task(pond(), 100, []int{100, 100}), api.ClRules{Count: 1, Early: 60}, not(), api.OK}, {task(pond(), 100, []int{101, 100}), api.ClRules{Count: 1, Early: 60}, plan(0, 0), api.ErrDown},
	} {
		d, e := closure.Decide(c.k, c.r)
		if d.Plan != c.want || e != c.e || e != api.OK && !sameDecision(d, api.ClDecision{}) {
			t.Errorf("%d: Decide = %v, %d, want %v, %d", i, d, e, c.want, c.e)
		}
		best, l, e := closure.Best(c.k, c.r)
		if c.e == api.OK && c.want != not() && (best != c.want || len(l) != 0 || e != api.OK) {
			t.Errorf("%d: Best = %v, %v, %d", i, best, l, e)
		}
	}
}

// P5.8
func TestBest(t *testing.T) {
	split := task(pond(), 100, []int{150, 0, 0, 0, 0}, []int{0, 0, 150, 0, 0}, []int{0, 0, 0, 0, 150})
	for i, c := range []struct {
		k    api.ClTask
		r    api.ClRules
		want api.ClPlan
		not  []int
		e    api.Errno
	}{
		{storm(), rules(), plan(10, 15), nil, api.OK}, {changed(storm(), func(t *api.ClTask) { t.Limit = 700 }), rules(), plan(14, 16), []int{0}, api.OK},
		{storm(), api.ClRules{Count: 2, Early: 3}, not(), []int{0}, api.OK}, {split, api.ClRules{Count: 4}, not(), []int{0, 1, 2}, api.OK}, {task(pond(), 100, []int{0}, []int{100}), rules(), not(), nil, api.OK},
		// From 101 on it holds for two histories, from 103 on for one; what is allowed begins later.
		{split, api.ClRules{Count: 3, Early: 60}, plan(101, 105), []int{0}, api.OK},
		{changed(split, func(t *api.ClTask) { t.Delay = 1 }), api.ClRules{Count: 1}, plan(100, 105), []int{0}, api.OK}, {changed(split, func(t *api.ClTask) { t.Delay = 2 }), api.ClRules{Count: 1}, plan(101, 105), []int{0, 1}, api.OK},
		{changed(split, func(t *api.ClTask) { t.Histories = t.Histories[1:] }), api.ClRules{Count: 1}, plan(103, 105), []int{0}, api.OK}, {changed(split, func(t *api.ClTask) { t.Histories = t.Histories[1:] }), api.ClRules{Count: 1, Early: 1}, plan(101, 105), nil, api.OK},
		// None holds for any history: the last plan of all.
		{task(pond(), 100, []int{101, 0, 0}), rules(), plan(102, 103), []int{0}, api.OK},
		{with(split, 5, 0, 0, 0, 0, 0), api.ClRules{Count: 3, Early: 60}, plan(0, 0), nil, api.ErrDown}, {with(task(pond(), 100, []int{0, 0, 101}), 1, 0, 0, 0), api.ClRules{Count: 1}, plan(0, 0), nil, api.ErrDown},
	} {
		if p, l, e := closure.Best(c.k, c.r); p != c.want || !slices.Equal(l, c.not) || e != c.e {
			t.Errorf("%d: Best = %v, %v, %d, want %v, %v, %d", i, p, l, e, c.want, c.not, c.e)
		}
	}
}

// acceptCase changes a decision, and says what Accept returns then.
type acceptCase struct {
	change func(d *api.ClDecision)
	at     int
	e      api.Errno
}

func testAccept(t *testing.T, k api.ClTask, r api.ClRules, right api.ClDecision, l []acceptCase) {
	t.Helper()
	for i, c := range l {
		d := copyDecision(right)
		c.change(&d)
		if at, e := closure.Accept(k, r, d); at != c.at || e != c.e {
			t.Errorf("%d: Accept of %v = %d, %d, want %d, %d", i, d, at, e, c.at, c.e)
		}
	}
}

// P5.7
func TestAccept(t *testing.T) {
	wild := func(w api.ClWitness) func(d *api.ClDecision) {
		return func(d *api.ClDecision) { d.Later[2] = w }
	}
	testAccept(t, storm(), rules(), decision(), []acceptCase{
		{func(d *api.ClDecision) {}, 0, api.OK},
		{func(d *api.ClDecision) { d.Plan = plan(10, 17) }, 0, api.ErrArg}, {func(d *api.ClDecision) { d.Plan = plan(10, 11) }, 0, api.ErrArg}, {func(d *api.ClDecision) { d.Plan = plan(15, 16) }, 0, api.ErrArg}, {func(d *api.ClDecision) { d.Plan = plan(-1, 16) }, 0, api.ErrArg}, {func(d *api.ClDecision) { d.Plan = plan(0, 0) }, 0, api.ErrArg},
		{func(d *api.ClDecision) { d.Peaks = nil }, 0, api.ErrArg}, {func(d *api.ClDecision) { d.Peaks = d.Peaks[:1] }, 0, api.ErrArg}, {func(d *api.ClDecision) { d.Peaks = append(d.Peaks, d.Peaks[0]) }, 0, api.ErrArg},
		{func(d *api.ClDecision) { *d = api.ClDecision{Plan: not(), Peaks: d.Peaks} }, 0, api.ClErrEarly},
		{func(d *api.ClDecision) { d.Plan.Open = 16 }, 0, api.ClErrHolds}, {func(d *api.ClDecision) { d.Plan.Open = 14 }, 0, api.ClErrHolds}, {func(d *api.ClDecision) { d.Plan.Close = 11 }, 0, api.ClErrHolds}, {func(d *api.ClDecision) { d.Plan = plan(14, 16) }, 0, api.ClErrHolds},
		{func(d *api.ClDecision) { d.Peaks[0].Level = 728 }, 0, api.ClErrPeak}, {func(d *api.ClDecision) { d.Peaks[0].Level = 730 }, 0, api.ClErrPeak}, {func(d *api.ClDecision) { d.Peaks[0].At = 13 }, 0, api.ClErrPeak}, {func(d *api.ClDecision) { d.Peaks[1].Level = 81 }, 1, api.ClErrPeak}, {func(d *api.ClDecision) { d.Peaks[1].At = math.MinInt }, 1, api.ClErrPeak}, {func(d *api.ClDecision) { d.Peaks[0], d.Peaks[1] = d.Peaks[1], d.Peaks[0] }, 0, api.ClErrPeak},
		{func(d *api.ClDecision) { d.Later = nil }, 0, api.ErrArg}, {func(d *api.ClDecision) { d.Later = d.Later[:3] }, 0, api.ErrArg}, {func(d *api.ClDecision) { d.Later = append(d.Later, d.Later[0]) }, 0, api.ErrArg},
		{wild(api.ClWitness{History: 1, At: 12}), 2, api.ClErrLater}, {wild(api.ClWitness{History: 2, At: 12}), 2, api.ClErrLater}, {wild(api.ClWitness{History: -1, At: 12}), 2, api.ClErrLater}, {wild(api.ClWitness{History: math.MaxInt, At: 12}), 2, api.ClErrLater}, {wild(api.ClWitness{History: math.MinInt, At: 12}), 2, api.ClErrLater},
		{wild(api.ClWitness{At: 9}), 2, api.ClErrLater}, {wild(api.ClWitness{At: 10}), 2, api.ClErrLater}, {wild(api.ClWitness{At: 15}), 2, api.ClErrLater}, {wild(api.ClWitness{At: 16}), 2, api.ClErrLater}, {wild(api.ClWitness{At: math.MinInt}), 2, api.ClErrLater}, {wild(api.ClWitness{At: math.MaxInt}), 2, api.ClErrLater},
		{func(d *api.ClDecision) { d.Later[0].At, d.Later[3].At = 11, 11 }, 0, api.ClErrLater}, {func(d *api.ClDecision) { d.Later[3].At = 11 }, 3, api.ClErrLater},
		// Another witness that rules out the tick is as good: with the plan from 12 the gates shut at 13, with that from 13 at 14.
		{func(d *api.ClDecision) { d.Later[1].At = 13 }, 0, api.OK}, {func(d *api.ClDecision) { d.Later[1].At = 14 }, 0, api.OK}, {func(d *api.ClDecision) { d.Later[2].At = 14 }, 0, api.OK}, {func(d *api.ClDecision) { d.Later[3].At = 14 }, 0, api.OK},
	})
	testAccept(t, storm(), api.ClRules{Count: 1, Early: 1}, decision(), []acceptCase{{func(d *api.ClDecision) {}, 0, api.ClErrEarly}, {func(d *api.ClDecision) { d.Plan.Close = 11 }, 0, api.ClErrHolds}})
}

// Two histories may rule out a tick, each of them at ticks of its own.
func TestAcceptOther(t *testing.T) {
	k := task(pond(), 100, []int{0, 0, 150, 0, 0}, []int{0, 0, 150, 150, 0})
	right := api.ClDecision{Plan: plan(101, 104), Peaks: peaks([2]int{100, 0}, [2]int{100, 0}), Later: all(3, api.ClWitness{At: 102})}
	isDecision(t, k, rules(), right)
	testAccept(t, k, rules(), right, []acceptCase{
		{func(d *api.ClDecision) { d.Later[0].History = 1 }, 0, api.OK}, {func(d *api.ClDecision) { d.Later[1] = api.ClWitness{History: 1, At: 103} }, 0, api.OK}, {func(d *api.ClDecision) { d.Later[2] = api.ClWitness{History: 1, At: 103} }, 0, api.OK},
		// By the plan from 102 the gates shut with 150 mm behind them, and open at 104.
		{func(d *api.ClDecision) { d.Later[0] = api.ClWitness{At: 103} }, 0, api.OK}, {func(d *api.ClDecision) { d.Later[0] = api.ClWitness{At: 104} }, 0, api.ClErrLater}, {func(d *api.ClDecision) { d.Later[2] = api.ClWitness{At: 103} }, 2, api.ClErrLater},
		// To close sooner holds, too, but nothing rules out to close later.
		{func(d *api.ClDecision) { d.Plan.Close = 100; d.Later = append(d.Later, d.Later[0]) }, 0, api.ClErrLater},
		{func(d *api.ClDecision) { d.Plan.Close = 100 }, 0, api.ErrArg},
	})
}

// A level is too great while the gates are shut, and not from the tick on from which they are open.
func TestAcceptTooGreat(t *testing.T) {
	k := with(task(tight(), 1500, []int{0, 0, 800, 1501, 0, 0, 0}), 0, 0, 0, 30, 0, 0, 0, 0)
	right := api.ClDecision{Plan: plan(101, 104), Peaks: peaks([2]int{103, 300}), Later: all(5, api.ClWitness{At: 103})}
	isDecision(t, k, api.ClRules{Count: 1, Early: 60}, right)
	at := func(tick int) func(d *api.ClDecision) {
		return func(d *api.ClDecision) { d.Later[0].At = tick }
	}
	testAccept(t, k, api.ClRules{Count: 1, Early: 60}, right, []acceptCase{
		{at(101), 0, api.ClErrLater}, {at(102), 0, api.ClErrLater}, {at(103), 0, api.OK}, {at(104), 0, api.ClErrLater}, {at(105), 0, api.ClErrLater}, {at(106), 0, api.ClErrLater},
	})
}

// A decision not to close has nothing in Later, and the rules have to be so.
func TestAcceptNotToClose(t *testing.T) {
	right := api.ClDecision{Plan: not(), Peaks: peaks([2]int{13, 2500}, [2]int{10, 0})}
	r := api.ClRules{Count: 2, Early: 3}
	testAccept(t, storm(), r, right, []acceptCase{
		{func(d *api.ClDecision) {}, 0, api.OK}, {func(d *api.ClDecision) { d.Later = []api.ClWitness{} }, 0, api.OK}, {func(d *api.ClDecision) { d.Later = make([]api.ClWitness, 1) }, 0, api.ErrArg}, {func(d *api.ClDecision) { d.Later = make([]api.ClWitness, 15) }, 0, api.ErrArg},
		{func(d *api.ClDecision) { *d = decision() }, 0, api.ClErrEarly}, {func(d *api.ClDecision) { d.Plan = plan(14, 16) }, 0, api.ClErrEarly},
		{func(d *api.ClDecision) { d.Peaks[0].Level = 2501 }, 0, api.ClErrPeak}, {func(d *api.ClDecision) { d.Peaks[1].At = 11 }, 1, api.ClErrPeak},
		{func(d *api.ClDecision) { d.Peaks = d.Peaks[1:] }, 0, api.ErrArg},
	})
	testAccept(t, storm(), api.ClRules{Count: 1, Early: 3}, right, []acceptCase{{func(d *api.ClDecision) {}, 0, api.ClErrEarly}})
}

// Of several errors the first one in the promise's order is returned.
func TestAcceptOrder(t *testing.T) {
	testAccept(t, storm(), rules(), decision(), []acceptCase{
		{func(d *api.ClDecision) { *d = api.ClDecision{Plan: not()} }, 0, api.ErrArg},
		{func(d *api.ClDecision) {
			*d = api.ClDecision{Plan: not(), Peaks: make([]api.ClPeak, 2), Later: make([]api.ClWitness, 1)}
		}, 0, api.ClErrEarly},
		{func(d *api.ClDecision) { d.Plan.Open, d.Peaks[0].At, d.Later = 16, 0, nil }, 0, api.ClErrHolds},
		{func(d *api.ClDecision) { d.Peaks[1].At, d.Later = 0, nil }, 1, api.ClErrPeak},
		{func(d *api.ClDecision) { d.Later = make([]api.ClWitness, 5) }, 0, api.ErrArg},
	})
	testAccept(t, storm(), api.ClRules{Count: 1}, decision(), []acceptCase{
		{func(d *api.ClDecision) { d.Plan.Open = 16 }, 0, api.ClErrEarly}, {func(d *api.ClDecision) { d.Plan.Open = 17 }, 0, api.ErrArg}, {func(d *api.ClDecision) { d.Peaks = nil }, 0, api.ErrArg},
	})
}
