package ship_test

import (
	"math"
	"slices"
	"testing"

	"barrage/api"
	"barrage/ship"
)

// fits checks what is wrong with a passage, alone.
func fits(t *testing.T, p api.ShPort, index, opening, start int, want api.Errno) {
	t.Helper()
	if why, e := ship.Fits(p, index, opening, start); why != want || e != api.OK {
		t.Errorf("Fits of %d through %d at %d = %d, %d, want %d", index, opening, start, why, e, want)
	}
}

// P6.2: the chapter's examples, and the ends of each condition.
func TestFits(t *testing.T) {
	p := estuary()
	for start, want := range map[int]api.Errno{
		0: api.ShErrEarly, 9: api.ShErrEarly, 10: api.OK, 14: api.OK, 15: api.ShErrShut, 39: api.ShErrShut, 40: api.OK,
		56: api.OK, 57: api.ShErrDeep, 59: api.ShErrDeep, 60: api.ShErrDeep, 200000: api.ShErrDeep,
	} {
		fits(t, p, bulk, 0, start, want)
	}
	fits(t, p, ferry, 0, 16, api.OK)
	fits(t, p, ferry, 0, 17, api.ShErrShut)
	fits(t, p, ferry, 0, 18, api.ShErrShut)
	fits(t, p, ferry, 0, 19, api.ShErrLate)
	fits(t, p, ferry, 0, 11, api.ShErrEarly)
}

func TestFitsByNumbers(t *testing.T) {
	one := func(change func(p *api.ShPort)) api.ShPort { return changed(harbour(boat("a", 110)), change) }
	for i, c := range []struct {
		change func(p *api.ShPort)
		start  int
		want   api.Errno
	}{
		{func(p *api.ShPort) {}, 110, api.OK}, {func(p *api.ShPort) {}, 109, api.ShErrEarly},
		{func(p *api.ShPort) { p.Ships[0].Until = 120 }, 120, api.OK}, {func(p *api.ShPort) { p.Ships[0].Until = 120 }, 121, api.ShErrLate},
		{func(p *api.ShPort) { p.Ships[0].Until = 0 }, 110, api.ShErrLate}, {func(p *api.ShPort) { p.Ships[0].Until = 109 }, 109, api.ShErrEarly},
		{func(p *api.ShPort) { p.Ships[0].Beam, p.Openings[0].Width = 30, 30 }, 110, api.OK}, {func(p *api.ShPort) { p.Ships[0].Beam, p.Openings[0].Width = 31, 30 }, 110, api.ShErrWide},
		// A level of 0, and 1 mm less at one tick.
		{func(p *api.ShPort) { p.Openings[0].Sill, p.Ships[0].Draught, p.Keel = -900, 600, 300 }, 110, api.OK},
		{func(p *api.ShPort) { p.Openings[0].Sill, p.Ships[0].Draught, p.Keel = -900, 601, 300 }, 110, api.ShErrDeep},
		{func(p *api.ShPort) { p.Openings[0].Sill, p.Ships[0].Draught, p.Keel = -900, 600, 301 }, 110, api.ShErrDeep},
		{func(p *api.ShPort) { p.Openings[0].Sill, p.Ships[0].Draught, p.Keel = -899, 600, 300 }, 110, api.ShErrDeep},
		{func(p *api.ShPort) { p.Levels.Values[9] = -1 }, 110, api.OK}, {func(p *api.ShPort) { p.Levels.Values[10] = -1 }, 110, api.ShErrDeep},
		{func(p *api.ShPort) { p.Levels.Values[11] = -1 }, 110, api.ShErrDeep}, {func(p *api.ShPort) { p.Levels.Values[12] = -1 }, 110, api.OK},
		// At ticks without a level, before the first one and behind the last one.
		{func(p *api.ShPort) { p.Ships[0].Ready = 0 }, 99, api.ShErrDeep}, {func(p *api.ShPort) { p.Ships[0].Ready = 0 }, 100, api.OK}, {func(p *api.ShPort) { p.Ships[0].Ready = 0 }, 0, api.ShErrDeep},
		{func(p *api.ShPort) {}, 148, api.OK}, {func(p *api.ShPort) {}, 149, api.ShErrDeep}, {func(p *api.ShPort) { p.Ships[0].Pass = 1 }, 149, api.OK}, {func(p *api.ShPort) { p.Ships[0].Pass = 50 }, 110, api.ShErrDeep},
		{func(p *api.ShPort) { p.Ships[0].Pass, p.Ships[0].Ready = 50, 100 }, 100, api.OK},
	} {
		fits(t, one(c.change), 0, 0, c.start, c.want)
		if t.Failed() {
			t.Fatalf("case %d", i)
		}
	}
}

// shutAt returns a harbour with a boat, whose opening is shut.
func shutAt(margin int, spans ...api.ShSpan) api.ShPort {
	p := harbour(boat("a", 110))
	p.Margin, p.Openings[0].Shut = margin, spans
	return p
}

func TestFitsIfShut(t *testing.T) {
	for _, c := range []struct {
		margin, from, until int
		want                api.Errno
	}{
		{0, 112, 120, api.OK}, {0, 111, 120, api.ShErrShut}, {0, 111, 112, api.ShErrShut}, {0, 100, 110, api.OK}, {0, 100, 111, api.ShErrShut}, {0, 110, 111, api.ShErrShut}, {0, 0, 200000, api.ShErrShut},
		{3, 115, 120, api.OK}, {3, 114, 120, api.ShErrShut}, {3, 114, 115, api.ShErrShut}, {3, 100, 110, api.OK}, {3, 113, 114, api.ShErrShut},
		// A span without ticks shuts nothing.
		{3, 111, 111, api.OK}, {3, 110, 110, api.OK}, {3, 113, 113, api.OK},
	} {
		fits(t, shutAt(c.margin, api.ShSpan{From: c.from, Until: c.until}), 0, 0, 110, c.want)
	}
	fits(t, shutAt(0, api.ShSpan{}, api.ShSpan{From: 90, Until: 100}, api.ShSpan{From: 130, Until: 140}, api.ShSpan{From: 111, Until: 112}), 0, 0, 110, api.ShErrShut)
	// Behind the last tick there is a margin, too.
	p := changed(shutAt(50, api.ShSpan{From: 200000, Until: 200000}), func(p *api.ShPort) { p.Levels.From = 200000 - 49 })
	fits(t, p, 0, 0, 199999, api.OK)
	p.Openings[0].Shut[0].From = 199999
	fits(t, p, 0, 0, 199997, api.ShErrShut)
}

// The first thing that is wrong counts.
func TestFitsOrder(t *testing.T) {
	p := changed(harbour(boat("a", 110)), func(p *api.ShPort) {
		p.Openings[0].Shut = []api.ShSpan{{From: 100, Until: 150}}
		p.Ships[0].Until, p.Ships[0].Beam, p.Ships[0].Draught = 50, 1, 1
	})
	for _, c := range []struct {
		mend func()
		want api.Errno
	}{
		{func() {}, api.ShErrEarly}, {func() { p.Ships[0].Ready = 0 }, api.ShErrLate}, {func() { p.Ships[0].Until = -1 }, api.ShErrWide},
		{func() { p.Ships[0].Beam = 0 }, api.ShErrDeep}, {func() { p.Ships[0].Draught = 0 }, api.ShErrShut}, {func() { p.Openings[0].Shut = nil }, api.OK},
	} {
		c.mend()
		fits(t, p, 0, 0, 105, c.want)
	}
}

// Each opening, and each ship, by its own numbers.
func TestFitsOfEach(t *testing.T) {
	p := changed(harbour(boat("a", 110), boat("b", 120)), func(p *api.ShPort) {
		p.Openings = []api.ShOpening{{Name: "wide", Width: 50, Sill: -100}, {Name: "deep", Width: 40, Sill: -200}, {Name: "shut", Width: 50, Sill: -200, Shut: []api.ShSpan{{From: 100, Until: 150}}}}
		p.Ships[0].Beam, p.Ships[1].Draught = 45, 150
	})
	for i, want := range [][]api.Errno{{api.OK, api.ShErrWide, api.ShErrShut}, {api.ShErrDeep, api.OK, api.ShErrShut}} {
		for opening, e := range want {
			fits(t, p, i, opening, 120, e)
		}
	}
	fits(t, p, 1, 1, 119, api.ShErrEarly)
}

func TestFitsErrors(t *testing.T) {
	least, most := math.MinInt, math.MaxInt
	for i, c := range []struct {
		ship, opening, start int
		e                    api.Errno
	}{
		{3, 0, 10, api.ErrNone}, {-1, 0, 10, api.ErrNone}, {0, 1, 10, api.ErrNone}, {0, -1, 10, api.ErrNone}, {most, least, 10, api.ErrNone}, {least, most, 10, api.ErrNone},
		{0, 1, -1, api.ErrNone}, {3, 0, 200001, api.ErrNone}, {0, 0, -1, api.ErrRange}, {0, 0, 200001, api.ErrRange}, {2, 0, least, api.ErrRange}, {2, 0, most, api.ErrRange}, {2, 0, 15, api.OK},
	} {
		if why, e := ship.Fits(estuary(), c.ship, c.opening, c.start); e != c.e || e != api.OK && why != api.OK {
			t.Errorf("%d: Fits = %d, %d, want %d", i, why, e, c.e)
		}
	}
}

// judge checks the faults of a plan, and that Worth has no answer if there are some.
func judge(t *testing.T, p api.ShPort, plan []api.ShPassage, want ...api.ShFault) {
	t.Helper()
	if l, e := ship.Judge(p, plan); !slices.Equal(l, want) || e != api.OK {
		t.Errorf("Judge of %v = %v, %d, want %v", plan, l, e, want)
	}
	value, held, e := ship.Worth(p, plan)
	if len(want) > 0 && (value != 0 || held != 0 || e != api.ErrDown) || len(want) == 0 && e != api.OK {
		t.Errorf("Worth of %v = %d, %d, %d", plan, value, held, e)
	}
}

// P6.3: the chapter's examples.
func TestJudge(t *testing.T) {
	p := estuary()
	judge(t, p, passages(pass(10, -1), pass(12, -1), pass(15, -1)), fault(api.ShErrMeet, ferry), fault(api.ShErrShut, tanker), fault(api.ShErrMeet, tanker))
	judge(t, p, first())
	judge(t, p, second())
	judge(t, p, passages(pass(9, -1), pass(17, 1), turned(1)), fault(api.ShErrEarly, bulk), fault(api.ShErrShut, ferry), fault(api.ShErrTurn, tanker))
	judge(t, harbour(), nil)
}

// When ships meet that go one after the other, or one against the other.
func TestMeet(t *testing.T) {
	same, against := harbour(boat("a", 110), boat("b", 100)), harbour(boat("a", 110), inbound(boat("b", 100)))
	for _, c := range []struct {
		p      api.ShPort
		start  int
		anchor int
		meet   bool
	}{
		// From 110 to 112, and 2 ticks, or 5, after that; before it 2 ticks to pass, and as many.
		{same, 106, 0, false}, {same, 107, 0, true}, {same, 109, 0, true}, {same, 110, 0, true}, {same, 111, 0, true}, {same, 113, 0, true}, {same, 114, 0, false},
		{against, 103, 1, false}, {against, 104, 1, true}, {against, 110, 1, true}, {against, 116, 1, true}, {against, 117, 1, false},
	} {
		var want []api.ShFault
		if c.meet {
			want = append(want, fault(api.ShErrMeet, 1))
		}
		judge(t, c.p, passages(pass(110, -1), pass(c.start, c.anchor)), want...)
	}
	// How long each passes counts, and not how long the other one does.
	long := changed(same, func(p *api.ShPort) { p.Ships[0].Pass = 7 })
	judge(t, long, passages(pass(110, -1), pass(118, 0)), fault(api.ShErrMeet, 1))
	judge(t, long, passages(pass(110, -1), pass(119, 0)))
	judge(t, long, passages(pass(110, -1), pass(106, 0)))
	// Both from inside: one after the other.
	both := changed(same, func(p *api.ShPort) { p.Ships[0].Inside, p.Ships[1].Inside = true, true })
	judge(t, both, passages(pass(110, -1), pass(114, 1)))
	judge(t, both, passages(pass(110, -1), pass(113, 1)), fault(api.ShErrMeet, 1))
	// Without a gap, one may begin when the other one has ended.
	close := changed(against, func(p *api.ShPort) { p.Gap = 0 })
	judge(t, close, passages(pass(110, -1), pass(112, 1)))
	judge(t, close, passages(pass(110, -1), pass(111, 1)), fault(api.ShErrMeet, 1))
}

// Only what is through the same opening meets; that is told once of a ship, and of the one with the greater index.
func TestMeetOfMany(t *testing.T) {
	p := changed(harbour(boats(3, 110)...), func(p *api.ShPort) {
		p.Openings = append(p.Openings, api.ShOpening{Name: "side"})
	})
	side := api.ShPassage{Opening: 1, Start: 110, Anchor: -1}
	judge(t, p, passages(pass(110, -1), side, turned(0)))
	judge(t, p, passages(pass(110, -1), pass(110, -1), pass(110, -1)), fault(api.ShErrMeet, 1), fault(api.ShErrMeet, 2))
	judge(t, p, passages(side, pass(110, -1), side), fault(api.ShErrMeet, 2))
	judge(t, p, passages(turned(0), turned(0), side))
	// Ships with faults are in the way as well.
	judge(t, p, passages(pass(105, -1), pass(107, -1), turned(0)), fault(api.ShErrEarly, 0), fault(api.ShErrEarly, 1), fault(api.ShErrMeet, 1))
}

// Who is held together at an anchorage, and at which ticks.
func TestRoom(t *testing.T) {
	p := harbour(boat("a", 100), boat("b", 105), boat("c", 110), inbound(boat("d", 100)))
	full := fault(api.ShErrRoom, 2)
	for _, c := range []struct {
		a, b, c api.ShPassage
		want    []api.ShFault
	}{
		// From 110 on three are held, if the others still are.
		{pass(120, 0), pass(124, 0), pass(128, 0), []api.ShFault{full}}, {pass(110, 0), pass(124, 0), pass(128, 0), nil}, {pass(111, 0), pass(124, 0), pass(128, 0), []api.ShFault{full}},
		{pass(120, 0), pass(106, 0), pass(128, 0), nil}, {pass(120, 0), pass(105, -1), pass(128, 0), nil}, {pass(120, 0), pass(124, 0), pass(110, -1), nil},
		{pass(120, 0), pass(124, 0), pass(116, 0), []api.ShFault{full}}, {pass(120, 0), turned(0), pass(128, 0), nil}, {pass(100, -1), pass(124, 0), pass(128, 0), nil},
	} {
		judge(t, p, passages(c.a, c.b, c.c, turned(1)), c.want...)
	}
	// On its own side only; there are two at the anchorage inside, which is no place for a ship from outside.
	judge(t, p, passages(pass(120, 0), pass(124, 1), turned(0), pass(110, 1)), fault(api.ShErrRoom, 1))
	judge(t, p, passages(pass(120, 0), turned(0), turned(0), pass(110, 0)), fault(api.ShErrRoom, 3))
	// Where a ship with a fault is held there is less room.
	judge(t, p, passages(turned(0), pass(124, 1), turned(0), pass(110, 1)), fault(api.ShErrRoom, 1))
	small := changed(p, func(p *api.ShPort) { p.Anchors[1].Room = 10 })
	judge(t, small, passages(turned(0), pass(124, 1), turned(0), pass(110, 1)), fault(api.ShErrRoom, 1), fault(api.ShErrRoom, 3))
	judge(t, small, passages(turned(0), pass(124, 1), turned(0), pass(105, 1)), fault(api.ShErrRoom, 1))
}

// A ship alone, one that comes when another one is already held, and one that becomes ready later than one behind it.
func TestRoomOfLengths(t *testing.T) {
	p := changed(harbour(boat("a", 100), boat("b", 105), boat("c", 102)), func(p *api.ShPort) {
		p.Ships[0].Length, p.Ships[1].Length, p.Ships[2].Length, p.Anchors[0].Room = 50, 60, 70, 130
	})
	judge(t, p, passages(pass(110, 0), turned(-1), turned(-1)), fault(api.ShErrTurn, 1), fault(api.ShErrTurn, 2))
	p = changed(p, func(p *api.ShPort) { p.Anchors[0].Turn = 70 })
	judge(t, p, passages(pass(110, 0), turned(0), turned(0)))
	judge(t, p, passages(pass(110, 0), pass(114, 0), turned(0)))
	judge(t, p, passages(pass(110, 0), pass(114, 0), pass(118, 0)), fault(api.ShErrRoom, 2))
	judge(t, p, passages(pass(101, 0), pass(114, 0), pass(118, 0)))
	judge(t, p, passages(pass(110, 0), pass(114, 0), pass(105, 0)))
	judge(t, p, passages(pass(110, 0), pass(114, 0), pass(106, 0)), fault(api.ShErrRoom, 2))
	for _, room := range []int{0, 49, 50} {
		var want []api.ShFault
		if room < 50 {
			want = append(want, fault(api.ShErrRoom, 0))
		}
		judge(t, changed(p, func(p *api.ShPort) { p.Anchors[0].Room = room }), passages(pass(110, 0), turned(0), turned(0)), want...)
	}
	// Other anchorages do not count.
	two := changed(p, func(p *api.ShPort) { p.Anchors = append(p.Anchors, api.ShAnchor{Name: "far", Room: 70}) })
	judge(t, two, passages(pass(110, 0), pass(114, 0), pass(118, 2)))
}

// Where ships can be turned back.
func TestTurn(t *testing.T) {
	p := estuary()
	for i, c := range []struct {
		anchor int
		wrong  bool
	}{{0, false}, {1, true}, {-1, true}} {
		var want []api.ShFault
		if c.wrong {
			want = append(want, fault(api.ShErrTurn, bulk))
		}
		judge(t, p, passages(turned(c.anchor), turned(1), turned(0)), want...)
		if t.Failed() {
			t.Fatalf("case %d", i)
		}
	}
	p.Anchors[0].Turn = 240
	judge(t, p, passages(turned(0), turned(1), turned(0)))
	p.Anchors[0].Turn, p.Anchors[1].Turn = 239, 79
	judge(t, p, passages(turned(0), turned(1), turned(0)), fault(api.ShErrTurn, ferry), fault(api.ShErrTurn, tanker))
	// No room is needed to turn.
	p = changed(p, func(p *api.ShPort) { p.Anchors[0].Turn, p.Anchors[0].Room, p.Anchors[1].Turn = 240, 0, 80 })
	judge(t, p, passages(turned(0), turned(1), turned(0)))
	judge(t, changed(p, func(p *api.ShPort) { p.Anchors = nil }), passages(turned(-1), turned(-1), turned(-1)), fault(api.ShErrTurn, 0), fault(api.ShErrTurn, 1), fault(api.ShErrTurn, 2))
}

// A ship can have three faults at once, in their order.
func TestFaultsOfOne(t *testing.T) {
	p := changed(harbour(boat("a", 110), boat("b", 105)), func(p *api.ShPort) { p.Ships[1].Until, p.Ships[1].Beam = 107, 9 })
	judge(t, p, passages(pass(110, -1), pass(109, 1)), fault(api.ShErrLate, 1), fault(api.ShErrMeet, 1), fault(api.ShErrRoom, 1))
	judge(t, p, passages(pass(110, -1), pass(107, 1)), fault(api.ShErrWide, 1), fault(api.ShErrMeet, 1), fault(api.ShErrRoom, 1))
	judge(t, p, passages(pass(110, -1), pass(114, 1)), fault(api.ShErrLate, 1), fault(api.ShErrRoom, 1))
}

func TestWorth(t *testing.T) {
	three := harbour(boat("a", 110), inbound(boat("b", 100)), boat("c", 120))
	three.Ships[0].Value, three.Ships[1].Value, three.Ships[2].Value = 1000, 200, 0
	for i, c := range []struct {
		p           api.ShPort
		plan        []api.ShPassage
		value, held int
		e           api.Errno
	}{
		{estuary(), first(), 50, 0, api.OK}, {estuary(), second(), 80, 30, api.OK},
		{estuary(), passages(turned(0), turned(1), turned(0)), 0, 0, api.OK}, {estuary(), passages(pass(11, 0), turned(1), turned(0)), 50, 1, api.OK},
		{estuary(), passages(pass(10, -1), pass(12, -1), turned(0)), 0, 0, api.ErrDown}, {estuary(), passages(turned(0), turned(1), turned(1)), 0, 0, api.ErrDown}, {estuary(), passages(pass(9, -1), turned(1), turned(0)), 0, 0, api.ErrDown},
		{three, passages(pass(111, 0), pass(101, 1), pass(125, 0)), 1200, 7, api.OK}, {three, passages(turned(0), pass(103, 1), pass(120, -1)), 200, 3, api.OK},
		{harbour(), nil, 0, 0, api.OK},
	} {
		if value, held, e := ship.Worth(c.p, c.plan); value != c.value || held != c.held || e != c.e {
			t.Errorf("%d: Worth of %v = %d, %d, %d", i, c.plan, value, held, e)
		}
	}
}
