package ship_test

import (
	"math"
	"slices"
	"testing"

	"barrage/api"
	"barrage/ship"
)

// in checks which ship is in an opening at a tick.
func in(t *testing.T, p api.ShPort, plan []api.ShPassage, opening, tick, want int) {
	t.Helper()
	if i, e := ship.In(p, plan, opening, tick); i != want || e != api.OK {
		t.Errorf("In through %d at %d = %d, %d, want %d", opening, tick, i, e, want)
	}
}

// free checks from which tick on an opening can be shut.
func free(t *testing.T, p api.ShPort, plan []api.ShPassage, opening, tick, want int) {
	t.Helper()
	if at, e := ship.Free(p, plan, opening, tick); at != want || e != api.OK {
		t.Errorf("Free of %d from %d = %d, %d, want %d", opening, tick, at, e, want)
	}
}

// P6.5: the chapter's examples, and the ends of the passages.
func TestIn(t *testing.T) {
	for tick, want := range map[int]int{0: -1, 11: -1, 12: ferry, 13: ferry, 14: -1, 39: -1, 40: bulk, 43: bulk, 44: -1, 200000: -1} {
		in(t, estuary(), second(), 0, tick, want)
	}
	// Two at once: the one with the least index, whichever begins first.
	both := passages(pass(13, 0), pass(12, -1), pass(13, -1))
	for tick, want := range map[int]int{12: ferry, 13: bulk, 16: bulk, 17: tanker, 18: -1} {
		in(t, estuary(), both, 0, tick, want)
	}
	two := changed(estuary(), func(p *api.ShPort) { p.Openings = append(p.Openings, api.ShOpening{Name: "side"}) })
	side := passages(api.ShPassage{Opening: 1, Start: 10, Anchor: -1}, pass(12, -1), turned(0))
	in(t, two, side, 0, 11, -1)
	in(t, two, side, 1, 11, bulk)
	in(t, two, side, 0, 12, ferry)
	in(t, two, side, 1, 12, bulk)
	in(t, harbour(), nil, 0, 110, -1)
	// Behind the levels, up to the last tick.
	late := changed(estuary(), func(p *api.ShPort) { p.Ships[0].Ready = 200000 })
	in(t, late, passages(pass(200000, -1), turned(1), turned(0)), 0, 200000, bulk)
}

func TestFree(t *testing.T) {
	for tick, want := range map[int]int{0: 0, 5: 5, 11: 11, 12: 16, 13: 16, 15: 16, 16: 16, 39: 39, 40: 46, 45: 46, 46: 46, 200000: 200000} {
		free(t, estuary(), second(), 0, tick, want)
	}
	// One after the other, in any order of their indices, with no tick between, or a tick.
	one := harbour(boat("a", 110), boat("b", 110), boat("c", 110))
	one.Margin = 3
	free(t, one, passages(pass(120, 0), pass(115, 0), pass(110, -1)), 0, 110, 125)
	free(t, one, passages(pass(110, -1), pass(115, 0), pass(120, 0)), 0, 110, 125)
	free(t, one, passages(pass(110, -1), pass(116, 0), pass(120, 0)), 0, 110, 115)
	free(t, one, passages(pass(110, -1), pass(116, 0), pass(121, 0)), 0, 116, 126)
	free(t, one, passages(pass(110, -1), pass(112, 0), pass(111, 0)), 0, 111, 117)
	one.Margin = 0
	free(t, one, passages(pass(110, -1), pass(112, 0), pass(120, 0)), 0, 110, 114)
	two := changed(one, func(p *api.ShPort) { p.Openings = named(2) })
	free(t, two, passages(pass(110, -1), api.ShPassage{Opening: 1, Start: 112, Anchor: 0}, turned(0)), 0, 110, 112)
	free(t, two, passages(pass(110, -1), api.ShPassage{Opening: 1, Start: 112, Anchor: 0}, turned(0)), 1, 113, 114)
	free(t, two, passages(turned(0), turned(0), turned(0)), 1, 113, 113)
	free(t, harbour(), nil, 0, 7, 7)
	// It may be above the last tick.
	late := changed(estuary(), func(p *api.ShPort) { p.Ships[2].Ready, p.Margin = 199999, 50 })
	free(t, late, passages(turned(0), turned(1), pass(200000, 0)), 0, 200000, 200055)
	free(t, late, passages(turned(0), turned(1), pass(200000, 0)), 0, 199999, 199999)
}

func TestInAndFreeErrors(t *testing.T) {
	least, most := math.MinInt, math.MaxInt
	for i, c := range []struct {
		opening, tick int
		e             api.Errno
	}{
		{1, 10, api.ErrNone}, {-1, 10, api.ErrNone}, {most, 10, api.ErrNone}, {least, 10, api.ErrNone}, {1, -1, api.ErrNone}, {-1, 200001, api.ErrNone},
		{0, -1, api.ErrRange}, {0, 200001, api.ErrRange}, {0, least, api.ErrRange}, {0, most, api.ErrRange}, {0, 0, api.OK}, {0, 200000, api.OK},
	} {
		index, e1 := ship.In(estuary(), second(), c.opening, c.tick)
		tick, e2 := ship.Free(estuary(), second(), c.opening, c.tick)
		if e1 != c.e || e2 != c.e || c.e != api.OK && (index != 0 || tick != 0) {
			t.Errorf("%d: In = %d, %d; Free = %d, %d; want %d", i, index, e1, tick, e2, c.e)
		}
	}
}

// replan checks what Replan returns.
func replan(t *testing.T, p api.ShPort, plan []api.ShPassage, now int, want ...api.ShPassage) {
	t.Helper()
	if l, e := ship.Replan(p, plan, now); !slices.Equal(l, want) || e != api.OK {
		t.Errorf("Replan of %v at %d = %v, %d, want %v", plan, now, l, e, want)
	}
}

// shutLater is estuary with the opening shut from 25 to 40.
func shutLater() api.ShPort {
	return changed(estuary(), func(p *api.ShPort) { p.Openings[0].Shut[0].From = 25 })
}

// P6.6: the chapter's example, and what is under way at other ticks.
func TestReplan(t *testing.T) {
	replan(t, shutLater(), first(), 11, pass(10, -1), pass(17, 1), turned(0))
	replan(t, shutLater(), first(), 10, pass(10, -1), pass(17, 1), turned(0))
	// Nothing has begun; if a ship is late it has to wait; one that has begun stays where it is.
	replan(t, shutLater(), first(), 9, pass(10, -1), pass(17, 1), turned(0))
	replan(t, shutLater(), passages(pass(18, 0), turned(1), turned(0)), 17, pass(18, 0), turned(1), turned(0))
	replan(t, shutLater(), passages(pass(17, 0), turned(1), turned(0)), 17, pass(17, 0), turned(1), turned(0))
	replan(t, shutLater(), passages(turned(0), pass(13, 1), turned(0)), 13, pass(18, 0), pass(13, 1), turned(0))
	replan(t, estuary(), second(), 11, pass(12, 0), turned(1), turned(0))
	replan(t, estuary(), second(), 12, pass(40, 0), pass(12, -1), turned(0))
	replan(t, estuary(), second(), 200000, pass(40, 0), pass(12, -1), turned(0))
	replan(t, estuary(), first(), 200000, pass(10, -1), turned(1), turned(0))
	replan(t, harbour(), nil, 0)
}

// Ships that have begun are placed first, whatever is wrong with them; what they do is in the way of the others.
func TestReplanKeeps(t *testing.T) {
	p := changed(harbour(boat("a", 110), boat("b", 111), inbound(boat("c", 105)), boat("d", 107)), func(p *api.ShPort) {
		p.Openings[0].Shut, p.Ships[1].Beam, p.Ships[2].Until = []api.ShSpan{{From: 112, Until: 115}}, 9, 107
	})
	replan(t, p, passages(turned(-1), pass(111, -1), pass(109, 0), pass(105, -1)), 111, pass(116, 0), pass(111, -1), pass(109, 0), pass(105, -1))
	replan(t, p, passages(turned(-1), pass(111, -1), pass(109, 0), pass(105, -1)), 110, pass(116, 0), turned(0), pass(109, 0), pass(105, -1))
	// Three are held on the wrong side and without room; the next ones have none there, and pass when they need none.
	full := harbour(inbound(boat("a", 100)), inbound(boat("b", 100)), inbound(boat("c", 100)), boat("d", 100), boat("e", 112))
	held := passages(pass(110, 0), pass(110, 0), pass(110, 0), turned(0), turned(0))
	replan(t, full, held, 110, pass(110, 0), pass(110, 0), pass(110, 0), turned(0), pass(117, 0))
	replan(t, full, held, 109, pass(110, 1), pass(114, 1), turned(1), pass(121, 0), pass(125, 0))
	// In the order of their indices, also behind one that is kept.
	replan(t, harbour(boats(3, 100)...), passages(pass(140, 0), pass(100, -1), pass(104, 0)), 103, pass(104, 0), pass(100, -1), pass(108, 0))
	replan(t, harbour(boats(3, 100)...), passages(pass(140, 0), pass(130, 0), pass(104, 0)), 104, pass(108, 0), turned(0), pass(104, 0))
}

func TestReplanErrors(t *testing.T) {
	// Who can neither pass nor turn: one that has not begun.
	short := changed(estuary(), func(p *api.ShPort) { p.Anchors[0].Turn = 239 })
	for i, c := range []struct {
		p    api.ShPort
		plan []api.ShPassage
		now  int
		e    api.Errno
	}{
		{estuary(), first(), -1, api.ErrRange}, {estuary(), first(), 200001, api.ErrRange}, {estuary(), first(), math.MinInt, api.ErrRange}, {estuary(), first(), math.MaxInt, api.ErrRange},
		{short, first(), -1, api.ErrRange}, {short, first(), 11, api.ErrDown}, {short, first(), 0, api.ErrDown}, {short, passages(pass(10, -1), turned(1), pass(14, -1)), 13, api.ErrDown}, {short, passages(pass(10, -1), turned(1), pass(14, -1)), 14, api.OK},
		{changed(harbour(boats(2, 110)...), func(p *api.ShPort) { p.Anchors = nil }), passages(pass(110, -1), turned(-1)), 110, api.ErrDown},
	} {
		if l, e := ship.Replan(c.p, c.plan, c.now); e != c.e || (l != nil) != (e == api.OK) {
			t.Errorf("%d: Replan = %v, %d, want %d", i, l, e, c.e)
		}
	}
}

// P6.6
func TestTurned(t *testing.T) {
	four := harbour(boats(4, 110)...)
	all := passages(pass(110, -1), pass(110, -1), pass(111, 1), pass(112, 0))
	for i, c := range []struct {
		p             api.ShPort
		before, after []api.ShPassage
		want          []int
	}{
		{estuary(), second(), first(), []int{1}}, {estuary(), first(), second(), nil}, {estuary(), first(), first(), nil},
		{four, all, all, nil}, {four, all, passages(turned(0), pass(110, -1), turned(-1), turned(1)), []int{3, 2, 0}},
		{four, passages(turned(0), pass(110, -1), turned(0), pass(112, 0)), passages(turned(0), turned(0), pass(110, -1), turned(0)), []int{3, 1}},
		{four, all, passages(turned(0), turned(0), turned(0), turned(0)), []int{3, 2, 1, 0}}, {harbour(), nil, nil, nil},
	} {
		if l, e := ship.Turned(c.p, c.before, c.after); !slices.Equal(l, c.want) || e != api.OK {
			t.Errorf("%d: Turned = %v, %d, want %v", i, l, e, c.want)
		}
	}
}
