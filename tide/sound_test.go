package tide_test

import (
	"math"
	"math/rand/v2"
	"slices"
	"testing"

	"barrage/api"
	"barrage/tide"
)

// P1.5, P1.12
func TestSoundAndAgree(t *testing.T) {
	lock, mole, weir := says("lock", 600, 700), says("mole", 690, 710), says("weir", 0, 10)
	for i, c := range []struct {
		l      []api.TdGauge
		wrong  int
		want   api.Span
		e      api.Errno
		many   int
		others []int
	}{
		{[]api.TdGauge{pier()}, 0, sp(580, 630), api.OK, 1, nil},
		{[]api.TdGauge{pier(), lock}, 0, sp(600, 630), api.OK, 2, nil},
		{[]api.TdGauge{pier(), lock}, 1, sp(580, 700), api.OK, 2, nil},
		{[]api.TdGauge{pier(), lock, weir}, 0, sp(0, 0), api.ErrDown, 2, []int{2}},
		{[]api.TdGauge{pier(), lock, weir}, 1, sp(600, 630), api.OK, 2, []int{2}},
		{[]api.TdGauge{pier(), lock, weir}, 2, sp(0, 700), api.OK, 2, []int{2}},
		// Two pairs agree, on levels that are apart.
		{[]api.TdGauge{pier(), lock, mole}, 1, sp(600, 700), api.OK, 2, nil},
		{[]api.TdGauge{weir, pier(), lock, mole}, 2, sp(600, 700), api.OK, 2, []int{0}},
		// Spans that have just one level in common do agree, neighbours do not.
		{[]api.TdGauge{says("a", 0, 5), says("b", 5, 9)}, 0, sp(5, 5), api.OK, 2, nil},
		{[]api.TdGauge{says("a", 0, 5), says("b", 6, 9)}, 0, sp(0, 0), api.ErrDown, 1, nil},
		{[]api.TdGauge{says("a", 0, 5), says("b", 6, 9)}, 1, sp(0, 9), api.OK, 1, nil},
		{[]api.TdGauge{says("a", 5, 5), says("b", 5, 5), says("c", 5, 5)}, 0, sp(5, 5), api.OK, 3, nil},
		// Those that say nothing, or contradict themselves, are counted, and agree with none.
		{[]api.TdGauge{pier(), mute("mute")}, 0, sp(0, 0), api.ErrDown, 1, []int{1}},
		{[]api.TdGauge{mute("mute"), pier()}, 1, sp(580, 630), api.OK, 1, []int{0}},
		{[]api.TdGauge{torn("torn"), pier(), lock}, 1, sp(600, 630), api.OK, 2, []int{0}},
		{[]api.TdGauge{torn("torn"), pier(), lock}, 0, sp(0, 0), api.ErrDown, 2, []int{0}},
		{[]api.TdGauge{mute("mute")}, 0, sp(0, 0), api.ErrDown, 0, []int{0}},
		{[]api.TdGauge{mute("mute"), torn("torn")}, 1, sp(0, 0), api.ErrDown, 0, []int{0, 1}},
		{[]api.TdGauge{mute("mute"), torn("torn"), pier()}, 2, sp(580, 630), api.OK, 1, []int{0, 1}},
		{nil, 0, sp(0, 0), api.ErrRange, 0, nil},
		{[]api.TdGauge{}, -1, sp(0, 0), api.ErrRange, 0, nil},
		{[]api.TdGauge{pier()}, 1, sp(0, 0), api.ErrRange, 1, nil},
		{[]api.TdGauge{pier(), lock}, -1, sp(0, 0), api.ErrRange, 2, nil},
		{[]api.TdGauge{pier(), lock}, math.MaxInt, sp(0, 0), api.ErrRange, 2, nil},
		{[]api.TdGauge{pier(), lock}, math.MinInt, sp(0, 0), api.ErrRange, 2, nil},
	} {
		x, e := tide.Sound(c.l, c.wrong, 110, 110)
		if x != c.want || e != c.e {
			t.Errorf("%d: Sound = %v, %d, want %v, %d", i, x, e, c.want, c.e)
		}
		many, others, f := tide.Agree(c.l, 110, 110)
		if many != c.many || !slices.Equal(others, c.others) || f != api.OK {
			t.Errorf("%d: Agree = %d, %v, %d, want %d, %v", i, many, others, f, c.many, c.others)
		}
	}
}

func TestSoundErrors(t *testing.T) {
	a, b := says("a", 0, 5), says("b", 0, 5)
	long := func(n int) (l []api.TdGauge) {
		for i := range n {
			l = append(l, says(string(rune('a'+i)), 0, 5))
		}
		return l
	}
	wrong := long(3)
	wrong[1].Rate, wrong[2].Name = -1, ""
	for i, c := range []struct {
		l                []api.TdGauge
		wrong, tick, now int
		e                api.Errno
	}{
		{long(api.MaxTdGauges), 0, 110, 110, api.OK},
		{long(api.MaxTdGauges + 1), 0, 110, 110, api.ErrLong},
		{make([]api.TdGauge, api.MaxTdGauges+1), -1, -1, -1, api.ErrLong},
		{[]api.TdGauge{a, a, {}}, -1, -1, -1, api.ErrForm},
		{wrong, 0, 110, 110, api.ErrRange},
		{[]api.TdGauge{a, b, a}, 0, 110, 110, api.ErrTwice},
		{[]api.TdGauge{a, b, b}, -1, -1, -1, api.ErrTwice},
		{[]api.TdGauge{a, b}, 0, -1, 110, api.ErrRange},
		{[]api.TdGauge{a, b}, 0, 110, api.MaxTick + 1, api.ErrRange},
		{[]api.TdGauge{a, b}, 0, math.MinInt, 110, api.ErrRange},
		{[]api.TdGauge{a, says("c", 6, 7)}, 2, -1, 110, api.ErrRange},
		{nil, 0, -1, 110, api.ErrRange},
	} {
		x, e := tide.Sound(c.l, c.wrong, c.tick, c.now)
		many, others, f := tide.Agree(c.l, c.tick, c.now)
		if e != c.e || f != c.e || e != api.OK && (x != sp(0, 0) || many != 0 || others != nil) {
			t.Errorf("%d: Sound = %v, %d; Agree = %d, %v, %d; want %d", i, x, e, many, others, f, c.e)
		}
	}
}

// P1.6
func TestResidual(t *testing.T) {
	l := []api.TdGauge{pier(), says("lock", 600, 700), says("weir", 0, 10)}
	twice := []api.TdGauge{pier(), pier()}
	badTable := moon()
	badTable.Consts[0].Name = ""
	for i, c := range []struct {
		table            api.TdTable
		l                []api.TdGauge
		wrong, tick, now int
		want             api.Span
		e                api.Errno
	}{
		// The tide at 110 is from 144 to 165.
		{moon(), l, 1, 110, 110, sp(600-165, 630-144), api.OK},
		{api.TdTable{Mean: -7}, l, 1, 110, 110, sp(607, 637), api.OK},
		{moon(), l, 0, 110, 110, sp(0, 0), api.ErrDown},
		{moon(), l, 3, 110, 110, sp(0, 0), api.ErrRange},
		{moon(), l, 1, -1, 110, sp(0, 0), api.ErrRange},
		{moon(), twice, 1, 110, 110, sp(0, 0), api.ErrTwice},
		{moon(), nil, 0, 110, 110, sp(0, 0), api.ErrRange},
		// The error of the table comes before all of Sound.
		{badTable, make([]api.TdGauge, api.MaxTdGauges+1), 0, -1, 110, sp(0, 0), api.ErrForm},
		{moon(), make([]api.TdGauge, api.MaxTdGauges+1), 0, -1, 110, sp(0, 0), api.ErrLong},
	} {
		if x, e := tide.Residual(c.table, c.l, c.wrong, c.tick, c.now); x != c.want || e != c.e {
			t.Errorf("%d: Residual = %v, %d, want %v, %d", i, x, e, c.want, c.e)
		}
	}
}

// someVoices returns gauges that say little spans at the tick 110, are mute, or contradict themselves.
func someVoices(r *rand.Rand) []api.TdGauge {
	var l []api.TdGauge
	for i := range from(r, 1, api.MaxTdGauges) {
		name := string(rune('a' + i))
		lo := from(r, -15, 15)
		l = append(l, []api.TdGauge{mute(name), torn(name), says(name, lo, lo+r.IntN(9))}[min(r.IntN(9), 2)])
	}
	return l
}

// agree returns how many gauges say that a level is possible at the tick 110, and which.
func agree(l []api.TdGauge, level int) (with []int) {
	for i, g := range l {
		if s, e := tide.Says(g, 110, 110); e == api.OK && s.Lo <= level && level <= s.Hi {
			with = append(with, i)
		}
	}
	return with
}

func TestSoundLevelByLevel(t *testing.T) {
	r := random()
	for range 2000 {
		l := someVoices(r)
		wrong := r.IntN(len(l))
		most := 0
		least, greatest := math.MaxInt, math.MinInt
		for level := -30; level <= 30; level++ {
			n := len(agree(l, level))
			most = max(most, n)
			if n >= len(l)-wrong {
				least, greatest = min(least, level), max(greatest, level)
			}
		}
		x, e := tide.Sound(l, wrong, 110, 110)
		if least > greatest && e != api.ErrDown || least <= greatest && (x != sp(least, greatest) || e != api.OK) {
			t.Fatalf("%v: Sound(%d) = %v, %d, want %d to %d", l, wrong, x, e, least, greatest)
		}
		var others []int
		for i := range l {
			with := false
			for level := -30; level <= 30; level++ {
				w := agree(l, level)
				with = with || most > 0 && len(w) == most && slices.Contains(w, i)
			}
			if !with {
				others = append(others, i)
			}
		}
		many, not, f := tide.Agree(l, 110, 110)
		if many != most || !slices.Equal(not, others) || f != api.OK {
			t.Fatalf("%v: Agree = %d, %v, %d, want %d, %v", l, many, not, f, most, others)
		}
		if (e == api.OK) != (many >= len(l)-wrong) {
			t.Fatalf("%v: Sound(%d) = %d, Agree = %d", l, wrong, e, many)
		}
	}
}

func TestSoundWithMoreWrongAndInAnyOrder(t *testing.T) {
	r := random()
	for range 500 {
		l := someVoices(r)
		mixed := slices.Clone(l)
		r.Shuffle(len(mixed), func(i, j int) { mixed[i], mixed[j] = mixed[j], mixed[i] })
		before, were := sp(0, 0), false
		for wrong := range l {
			x, e := tide.Sound(l, wrong, 110, 110)
			if were && (e != api.OK || x.Lo > before.Lo || x.Hi < before.Hi) {
				t.Fatalf("%v: Sound(%d) = %v, %d, and %v before", l, wrong, x, e, before)
			}
			before, were = x, e == api.OK
			if y, f := tide.Sound(mixed, wrong, 110, 110); y != x || f != e {
				t.Fatalf("%v: Sound(%d) = %v, %d, and %v, %d in another order", l, wrong, x, e, y, f)
			}
		}
		many, _, _ := tide.Agree(l, 110, 110)
		if again, _, _ := tide.Agree(mixed, 110, 110); again != many {
			t.Fatalf("%v: Agree = %d, and %d in another order", l, many, again)
		}
	}
}

// What only becomes known later, or is asked of another tick, goes into Sound and Agree as into Says.
func TestSoundByWhatIsKnown(t *testing.T) {
	l := []api.TdGauge{pier(), says("lock", 600, 700)}
	if x, e := tide.Sound(l, 1, 108, 109); x != sp(-420, 1420) || e != api.OK {
		t.Errorf("Sound = %v, %d", x, e)
	}
	if many, others, e := tide.Agree(l, 108, 109); many != 1 || !slices.Equal(others, []int{1}) || e != api.OK {
		t.Errorf("Agree = %d, %v, %d", many, others, e)
	}
	// Readings of a later tick say something of an earlier one, too, once they are known.
	for _, tick := range []int{108, 112} {
		if x, e := tide.Sound(l, 0, tick, 110); x != sp(580, 720) || e != api.OK {
			t.Errorf("Sound = %v, %d", x, e)
		}
		if many, others, e := tide.Agree(l, tick, 110); many != 2 || others != nil || e != api.OK {
			t.Errorf("Agree = %d, %v, %d", many, others, e)
		}
		if x, e := tide.Residual(api.TdTable{Mean: 80}, l, 0, tick, 110); x != sp(500, 640) || e != api.OK {
			t.Errorf("Residual = %v, %d", x, e)
		}
		if _, e := tide.Residual(api.TdTable{Mean: 80}, l, 0, tick, 109); e != api.ErrDown {
			t.Errorf("Residual: %d", e)
		}
	}
}

// P1.12: a true level is in Sound, if all but so many gauges read it.
func TestSoundHoldsTruth(t *testing.T) {
	r := random()
	for range 300 {
		rate := from(r, 0, 30)
		truth := someTruth(r, from(r, 1, 30), rate)
		n := from(r, 1, 5)
		wrong := r.IntN(n)
		var l []api.TdGauge
		for i := range n {
			g, _ := someGauge(r, string(rune('a'+i)), truth, rate)
			if i < wrong {
				g.Readings[0].Value += from(r, -500, 500)
			}
			l = append(l, g)
		}
		r.Shuffle(n, func(i, j int) { l[i], l[j] = l[j], l[i] })
		tick, now := r.IntN(len(truth)), r.IntN(len(truth))
		x, e := tide.Sound(l, wrong, tick, now)
		if e != api.OK || truth[tick] < x.Lo || truth[tick] > x.Hi {
			t.Fatalf("%v: Sound(%d, %d, %d) = %v, %d, the level is %d", l, wrong, tick, now, x, e, truth[tick])
		}
	}
}

// P1.13
func TestResidualHoldsDifferences(t *testing.T) {
	r := random()
	for range 500 {
		table, l := someTable(r), someVoices(r)
		wrong := r.IntN(len(l))
		sound, e := tide.Sound(l, wrong, 110, 110)
		x, f := tide.Residual(table, l, wrong, 110, 110)
		if e != f {
			t.Fatalf("errors %d and %d", e, f)
		}
		if e != api.OK {
			continue
		}
		level, _ := tide.Level(table, 110)
		least, most := math.MaxInt, math.MinInt
		for _, a := range []int{sound.Lo, sound.Hi, from(r, sound.Lo, sound.Hi)} {
			for _, b := range []int{level.Lo, level.Hi, from(r, level.Lo, level.Hi)} {
				least, most = min(least, a-b), max(most, a-b)
			}
		}
		if x != sp(least, most) {
			t.Fatalf("Residual = %v, want %d to %d", x, least, most)
		}
	}
}
