package tide_test

import (
	"math"
	"slices"
	"strings"
	"testing"

	"barrage/api"
	"barrage/probe"
	"barrage/tide"
)

// P1.1
func TestName(t *testing.T) {
	for _, s := range []string{"a", "z", "az", "moon", "m2", "a-", "a--9", "a0", strings.Repeat("a", api.MaxName)} {
		if !tide.Name(s) {
			t.Errorf("Name(%q) is false", s)
		}
	}
	for _, s := range []string{"", "-", "2", "-a", "2a", "A", "aB", "a_b", "a b", " a", "a ", "a\x00", "`", "{", "a`", "a{", "a/", "a:", "é", "aé", "a\xff", "a.", strings.Repeat("a", api.MaxName+1)} {
		if tide.Name(s) {
			t.Errorf("Name(%q) is true", s)
		}
	}
}

func TestCheckNumbers(t *testing.T) {
	y := moon()
	c := &y.Consts[0]
	c.Step, c.Den, c.Offset = 1, 3, 0
	look := func() (part, at int, e api.Errno) {
		_, e = tide.Check(y)
		return 0, 0, e
	}
	probe.Ends(t, 0, 0, look,
		probe.Field("Mean", &y.Mean, api.MinLevel, api.MaxLevel, api.ErrRange),
		probe.Field("Heights", &c.Heights[0], -api.MaxTdHeight, api.MaxTdHeight, api.ErrRange),
		probe.Field("Heights, the last one", &c.Heights[3], -api.MaxTdHeight, api.MaxTdHeight, api.ErrRange),
		probe.Field("Offset", &c.Offset, 0, 11, api.ErrRange),
		probe.Field("Step", &c.Step, 1, api.MaxTdStep, api.ErrRange),
		probe.Field("Den", &c.Den, 1, api.MaxTdDen, api.ErrRange),
		probe.Field("Slack", &c.Slack, 0, api.MaxTdSlack, api.ErrRange),
	)
}

func TestCheck(t *testing.T) {
	names := func(n int) []api.TdConst {
		var l []api.TdConst
		for i := range n {
			l = append(l, api.TdConst{Name: string(rune('a' + i)), Heights: []int{0, 1}, Step: 1, Den: 1})
		}
		return l
	}
	for i, c := range []struct {
		change func(y *api.TdTable)
		at     int
		e      api.Errno
	}{
		{func(y *api.TdTable) {}, 0, api.OK},
		{func(y *api.TdTable) { y.Consts = nil }, 0, api.OK},
		{func(y *api.TdTable) { y.Consts = []api.TdConst{} }, 0, api.OK},
		{func(y *api.TdTable) { y.Consts = names(api.MaxTdConsts) }, 0, api.OK},
		{func(y *api.TdTable) { y.Consts = names(api.MaxTdConsts + 1) }, -1, api.ErrLong},
		{func(y *api.TdTable) { y.Mean = api.MaxLevel + 1 }, -1, api.ErrRange},
		// The error that is named first comes first.
		{func(y *api.TdTable) { y.Mean, y.Consts = api.MinLevel-1, names(api.MaxTdConsts+1) }, -1, api.ErrRange},
		{func(y *api.TdTable) { y.Mean, y.Consts[0].Name = api.MinLevel-1, "" }, -1, api.ErrRange},
		{func(y *api.TdTable) { y.Consts = make([]api.TdConst, api.MaxTdConsts+1) }, -1, api.ErrLong},
		{func(y *api.TdTable) { y.Consts[0] = api.TdConst{Name: "Moon", Slack: -1} }, 0, api.ErrForm},
		{func(y *api.TdTable) { y.Consts = append(y.Consts, api.TdConst{Name: "moon", Slack: -1}) }, 1, api.ErrTwice},
		{func(y *api.TdTable) { y.Consts[0] = api.TdConst{Name: "moon", Slack: -1} }, 0, api.ErrLong},
		// The first constituent with an error decides, whatever is wrong with later ones.
		{func(y *api.TdTable) { y.Consts = names(3); y.Consts[1].Den = 0; y.Consts[2].Name = "" }, 1, api.ErrRange},
		{func(y *api.TdTable) { y.Consts = names(3); y.Consts[2].Name = "a" }, 2, api.ErrTwice},
		{func(y *api.TdTable) { y.Consts = names(3); y.Consts[2].Name = "b" }, 2, api.ErrTwice},
		{func(y *api.TdTable) { y.Consts[0].Heights = nil }, 0, api.ErrLong},
		{func(y *api.TdTable) { y.Consts[0].Heights = []int{1} }, 0, api.ErrLong},
		{func(y *api.TdTable) { y.Consts[0].Heights = []int{1, 2} }, 0, api.OK},
		{func(y *api.TdTable) { y.Consts[0].Heights = make([]int, api.MaxTdHeights) }, 0, api.OK},
		{func(y *api.TdTable) { y.Consts[0].Heights = make([]int, api.MaxTdHeights+1) }, 0, api.ErrLong},
		{func(y *api.TdTable) { y.Consts[0].Offset = 147 }, 0, api.OK},
		{func(y *api.TdTable) { y.Consts[0].Offset = 148 }, 0, api.ErrRange},
	} {
		y := moon()
		c.change(&y)
		if at, e := tide.Check(y); at != c.at || e != c.e {
			t.Errorf("%d: Check = %d, %d, want %d, %d", i, at, e, c.at, c.e)
		}
		// P1.2: Level to Period return this error first, also with ticks that are none.
		if s, e := tide.Level(y, 0); e != c.e || e != api.OK && s != sp(0, 0) {
			t.Errorf("%d: Level = %v, %d", i, s, e)
		}
		if n, e := tide.Period(y); e != c.e || e != api.OK && n != 0 {
			t.Errorf("%d: Period = %d, %d", i, n, e)
		}
		if c.e == api.OK {
			continue
		}
		_, level := tide.Level(y, -1)
		levels, levelsError := tide.Levels(y, -1, -1)
		high, highError := tide.High(y, -1, -1)
		if level != c.e || levels != nil || levelsError != c.e || high != nil || highError != c.e {
			t.Errorf("%d: %d; %v, %d; %v, %d", i, level, levels, levelsError, high, highError)
		}
	}
}

// P1.2
func TestLevel(t *testing.T) {
	for tick, want := range map[int]api.Span{0: sp(90, 110), 1: sp(144, 165), 37: sp(90, 110), 55: sp(-883, -862), 56: sp(-883, -862), 74: sp(90, 110), 75: sp(144, 165)} {
		if x, e := tide.Level(moon(), tick); x != want || e != api.OK {
			t.Errorf("Level(%d) = %v, %d, want %v", tick, x, e, want)
		}
	}
	for _, tick := range []int{-1, api.MaxTick + 1, math.MinInt, math.MaxInt} {
		if x, e := tide.Level(moon(), tick); x != sp(0, 0) || e != api.ErrRange {
			t.Errorf("Level(%d) = %v, %d", tick, x, e)
		}
	}
	// The level is the mean and all parts together, and may reach beyond the levels; the last height goes over to the first one.
	y := api.TdTable{Mean: api.MaxLevel, Consts: []api.TdConst{
		{Name: "a", Heights: []int{-7, 10000}, Offset: 4, Step: 1, Den: 3, Slack: 1},
		{Name: "b", Heights: []int{5, -6}, Offset: 1, Step: 1, Den: 2, Slack: 1000},
	}}
	// a: (10000 * 2 + -7) / 3 is 6664.33..; b: (5 - 6) / 2 is -0.5.
	if x, e := tide.Level(y, 0); x != sp(20000+6663-1001, 20000+6666+1000) || e != api.OK {
		t.Errorf("Level = %v, %d", x, e)
	}
	if x, e := tide.Level(api.TdTable{Mean: -3}, api.MaxTick); x != sp(-3, -3) || e != api.OK {
		t.Errorf("Level = %v, %d", x, e)
	}
}

func TestLevels(t *testing.T) {
	for _, c := range []struct {
		from, n int
		e       api.Errno
	}{
		{0, 2, api.OK}, {70, api.MaxTdTicks, api.OK}, {api.MaxTick, 1, api.OK}, {api.MaxTick - 3, 4, api.OK},
		{0, 0, api.OK}, {-5, 0, api.OK}, {math.MaxInt, 0, api.OK}, {math.MinInt, 0, api.OK},
		{0, -1, api.ErrLong}, {0, api.MaxTdTicks + 1, api.ErrLong}, {-1, api.MaxTdTicks + 1, api.ErrLong}, {-1, -1, api.ErrLong}, {0, math.MaxInt, api.ErrLong}, {0, math.MinInt, api.ErrLong},
		{-1, 1, api.ErrRange}, {-1, 2, api.ErrRange}, {api.MaxTick, 2, api.ErrRange}, {api.MaxTick + 1, 1, api.ErrRange}, {math.MaxInt, api.MaxTdTicks, api.ErrRange}, {math.MinInt, 2, api.ErrRange},
	} {
		l, e := tide.Levels(moon(), c.from, c.n)
		if e != c.e || e != api.OK && l != nil || e == api.OK && len(l) != c.n {
			t.Errorf("Levels(%d, %d) = %v, %d", c.from, c.n, l, e)
		}
		for i, x := range l {
			if want, _ := tide.Level(moon(), c.from+i); x != want {
				t.Errorf("Levels(%d, %d)[%d] = %v, want %v", c.from, c.n, i, x, want)
			}
		}
		// P1.3: High returns the same errors.
		if l, f := tide.High(moon(), c.from, c.n); f != c.e || f != api.OK && l != nil {
			t.Errorf("High(%d, %d) = %v, %d", c.from, c.n, l, f)
		}
	}
}

// P1.3
func TestHigh(t *testing.T) {
	for _, c := range []struct {
		from, n int
		want    []int
	}{{18, 2, []int{18, 19}}, {0, 2, []int{1}}, {0, 74, []int{18, 19}}, {0, 148, []int{18, 19, 92, 93}}, {5, 0, nil}, {-5, 0, nil}, {api.MaxTick, 1, []int{api.MaxTick}}} {
		if l, e := tide.High(moon(), c.from, c.n); !slices.Equal(l, c.want) || e != api.OK {
			t.Errorf("High(%d, %d) = %v, %d, want %v", c.from, c.n, l, e, c.want)
		}
	}
	// With a slack of 5 more the lower one of 990 and 1000 can be the greater one; with 4 it cannot.
	y := api.TdTable{Consts: []api.TdConst{{Name: "a", Heights: []int{990, 1000}, Step: 1, Den: 1, Slack: 4}}}
	if l, _ := tide.High(y, 0, 2); !slices.Equal(l, []int{1}) {
		t.Errorf("High = %v", l)
	}
	y.Consts[0].Slack = 5
	if l, _ := tide.High(y, 0, 2); !slices.Equal(l, []int{0, 1}) {
		t.Errorf("High = %v", l)
	}
	y = api.TdTable{Mean: api.MinLevel}
	if l, _ := tide.High(y, 3, 2); !slices.Equal(l, []int{3, 4}) {
		t.Errorf("High = %v", l)
	}
}

// cycleOf returns a constituent that begins again after n ticks.
func cycleOf(name string, n int) api.TdConst {
	return api.TdConst{Name: name, Heights: []int{0, 1}, Step: 2, Den: n}
}

func TestPeriod(t *testing.T) {
	primes := []int{997, 991, 983, 977, 971, 967, 953, 947, 941, 937, 929, 919}
	var longest []api.TdConst
	for i, p := range primes {
		longest = append(longest, cycleOf(string(rune('a'+i)), p))
	}
	for i, c := range []struct {
		l    []api.TdConst
		want int
		e    api.Errno
	}{
		{nil, 1, api.OK},
		{moon().Consts, 74, api.OK},
		{append(moon().Consts, api.TdConst{Name: "sun", Heights: []int{0, 1, 2}, Step: 1, Den: 4}), 444, api.OK},
		{[]api.TdConst{{Name: "a", Heights: []int{0, 1}, Step: 4, Den: 2}}, 1, api.OK},
		{[]api.TdConst{{Name: "a", Heights: []int{0, 1}, Step: api.MaxTdStep, Den: 997}}, 997, api.OK},
		{[]api.TdConst{{Name: "a", Heights: []int{0, 1, 2}, Step: 6, Den: 3}}, 3, api.OK},
		{[]api.TdConst{{Name: "a", Heights: make([]int, 40), Step: 1, Den: 1000}, {Name: "b", Heights: make([]int, 25), Step: 1, Den: 625}}, 1000000, api.OK},
		{[]api.TdConst{{Name: "a", Heights: make([]int, api.MaxTdHeights), Step: 7, Den: api.MaxTdDen}}, 48000, api.OK},
		// The last number of ticks up to MaxTdPeriod, and the first one above it, that cycles can have.
		{[]api.TdConst{cycleOf("a", 990), cycleOf("b", 73), cycleOf("c", 101), cycleOf("d", 137)}, 999999990, api.OK},
		{[]api.TdConst{cycleOf("a", 767), cycleOf("b", 17), cycleOf("c", 271), cycleOf("d", 283)}, 0, api.ErrLong},
		// A product that is too great for an int, if it were made.
		{longest, 0, api.ErrLong},
	} {
		if n, e := tide.Period(api.TdTable{Consts: c.l}); n != c.want || e != c.e {
			t.Errorf("%d: Period = %d, %d, want %d, %d", i, n, e, c.want, c.e)
		}
	}
}

// place returns the p of a constituent.
func place(c api.TdConst, tick int) int { return (c.Offset + c.Step*tick) % (c.Den * len(c.Heights)) }

// sameAfter returns the least number of ticks after which all p are the same.
func sameAfter(y api.TdTable) int {
	for n := 1; ; n++ {
		if !slices.ContainsFunc(y.Consts, func(c api.TdConst) bool { return place(c, n) != place(c, 0) }) {
			return n
		}
	}
}

func TestPeriodIsLeast(t *testing.T) {
	r := random()
	for range 200 {
		y := someTable(r)
		if n, e := tide.Period(y); n != sameAfter(y) || e != api.OK {
			t.Fatalf("Period(%v) = %d, %d", y, n, e)
		}
	}
}

// height returns the interpolated height of a constituent, as a numerator over its Den.
func height(c api.TdConst, tick int) int {
	p := place(c, tick)
	k, r := p/c.Den, p%c.Den
	return c.Heights[k]*(c.Den-r) + c.Heights[(k+1)%len(c.Heights)]*r
}

// P1.8: each height is in its part, the part is no wider than it has to be, and levels within the slack are in Level.
func TestLevelHoldsHeights(t *testing.T) {
	r := random()
	for range 1000 {
		y := someTable(r)
		tick := from(r, 0, api.MaxTick)
		for _, c := range y.Consts {
			one, _ := tide.Level(api.TdTable{Consts: []api.TdConst{c}}, tick)
			h := height(c, tick)
			lo, hi := (one.Lo+c.Slack)*c.Den, (one.Hi-c.Slack)*c.Den
			if lo > h || hi < h || lo <= h-c.Den || hi >= h+c.Den {
				t.Fatalf("%v at %d: %v, height %d / %d", c, tick, one, h, c.Den)
			}
		}
		level := y.Mean
		for _, c := range y.Consts {
			h := height(c, tick)
			least, most := ceil(h, c.Den)-c.Slack, floor(h, c.Den)+c.Slack
			if least > most {
				least, most = floor(h, c.Den), floor(h, c.Den)
			}
			level += from(r, least, most)
		}
		if s, e := tide.Level(y, tick); level < s.Lo || level > s.Hi || e != api.OK {
			t.Fatalf("%v at %d: %v has not %d", y, tick, s, level)
		}
	}
}

func floor(n, by int) int { return int(math.Floor(float64(n) / float64(by))) }

func ceil(n, by int) int { return int(math.Ceil(float64(n) / float64(by))) }

func TestMoreSlack(t *testing.T) {
	r := random()
	for range 300 {
		y := someTable(r)
		if len(y.Consts) == 0 {
			continue
		}
		tick := from(r, 0, api.MaxTick)
		before, _ := tide.Level(y, tick)
		more := from(r, 0, 50)
		y.Consts[r.IntN(len(y.Consts))].Slack += more
		if after, _ := tide.Level(y, tick); after != sp(before.Lo-more, before.Hi+more) {
			t.Fatalf("%v at %d: %v, and %v", y, tick, before, after)
		}
	}
}

// P1.9
func TestCycles(t *testing.T) {
	r := random()
	for range 300 {
		y := someTable(r)
		n, _ := tide.Period(y)
		tick := from(r, 0, 1000)
		here, _ := tide.Level(y, tick)
		if after, e := tide.Level(y, tick+n); tick+n <= api.MaxTick && (after != here || e != api.OK) {
			t.Fatalf("%v: %v at %d, %v at %d", y, here, tick, after, tick+n)
		}
		next, _ := tide.Level(y, tick+1)
		for i, c := range y.Consts {
			y.Consts[i].Offset = (c.Offset + c.Step) % (c.Den * len(c.Heights))
		}
		if moved, _ := tide.Level(y, tick); moved != next {
			t.Fatalf("%v: %v at %d, want %v", y, moved, tick, next)
		}
	}
}

// P1.10
func TestHighest(t *testing.T) {
	r := random()
	for range 300 {
		y := someTable(r)
		start, n := from(r, 0, 1000), from(r, 1, 40)
		l, _ := tide.Levels(y, start, n)
		high, _ := tide.High(y, start, n)
		if !slices.IsSorted(high) {
			t.Fatalf("High = %v", high)
		}
		for i, s := range l {
			// It can be the greatest one exactly if it is when it is as high, and all others are as low, as they can be.
			can := !slices.ContainsFunc(l, func(o api.Span) bool { return o.Lo > s.Hi })
			if can != slices.Contains(high, start+i) {
				t.Fatalf("%v: High = %v, levels %v", y, high, l)
			}
		}
		most, at := math.MinInt, 0
		for i, s := range l {
			if x := from(r, s.Lo, s.Hi); x > most {
				most, at = x, start+i
			}
		}
		if !slices.Contains(high, at) {
			t.Fatalf("%v: the greatest level is at %d, High = %v", y, at, high)
		}
	}
}
