package gate_test

import (
	"math"
	"math/rand/v2"
	"slices"
	"testing"

	"barrage/api"
	"barrage/gate"
)

// encoder and toggle return sensors.
func encoder(tol int) api.GtSensor { return api.GtSensor{Kind: api.GtEncoder, Tol: tol} }

func toggle(at, tol int) api.GtSensor { return api.GtSensor{Kind: api.GtSwitch, At: at, Tol: tol} }

// sensed is east with other sensors.
func sensed(wrong int, l ...api.GtSensor) api.GtGate {
	return changed(east(), func(g *api.GtGate) { g.Sensors, g.Wrong = l, wrong })
}

// P3.5
func TestWhere(t *testing.T) {
	one, two := encoder(10), []api.GtSensor{encoder(10), encoder(20)}
	for i, c := range []struct {
		g        api.GtGate
		readings []int
		want     api.Span
		e        api.Errno
	}{
		{east(), []int{500, 510, 0}, sp(490, 520), api.OK}, {east(), []int{500, 900, 0}, sp(490, 910), api.OK}, {east(), []int{1000, 990, 1}, sp(990, 1000), api.OK}, {east(), []int{500, 900, 1}, sp(0, 0), api.ErrDown}, {east(), []int{500, 510, 2}, sp(500, 510), api.OK}, {east(), []int{500, 521, 2}, sp(0, 0), api.ErrDown}, {east(), []int{500, 520, -1}, sp(510, 510), api.OK},
		{sensed(0), nil, sp(0, 1000), api.OK}, {sensed(0), []int{}, sp(0, 1000), api.OK},
		// An encoder says nothing of what is beyond the way.
		{sensed(0, one), []int{500}, sp(490, 510), api.OK}, {sensed(0, one), []int{-10}, sp(0, 0), api.OK}, {sensed(0, one), []int{-11}, sp(0, 0), api.ErrDown}, {sensed(0, one), []int{1010}, sp(1000, 1000), api.OK}, {sensed(0, one), []int{1011}, sp(0, 0), api.ErrDown}, {sensed(0, one), []int{3}, sp(0, 13), api.OK}, {sensed(0, encoder(0)), []int{7}, sp(7, 7), api.OK}, {sensed(0, encoder(5000)), []int{-4990}, sp(0, 10), api.OK},
		{sensed(0, one), []int{math.MinInt}, sp(0, 0), api.ErrDown}, {sensed(0, one), []int{math.MaxInt}, sp(0, 0), api.ErrDown}, {sensed(1, one), []int{math.MinInt}, sp(0, 1000), api.OK},
		{sensed(0, two...), []int{500, 530}, sp(510, 510), api.OK}, {sensed(0, two...), []int{500, 531}, sp(0, 0), api.ErrDown}, {sensed(1, two...), []int{500, 531}, sp(490, 551), api.OK}, {sensed(2, two...), []int{500, 531}, sp(0, 1000), api.OK},
		{sensed(0, toggle(900, 5)), []int{1}, sp(895, 1000), api.OK}, {sensed(0, toggle(900, 5)), []int{0}, sp(0, 905), api.OK}, {sensed(0, toggle(4, 5)), []int{1}, sp(0, 1000), api.OK}, {sensed(0, toggle(998, 5)), []int{0}, sp(0, 1000), api.OK}, {sensed(0, toggle(1005, 5)), []int{1}, sp(1000, 1000), api.OK}, {sensed(0, toggle(1006, 5)), []int{1}, sp(0, 0), api.ErrDown},
		{sensed(0, toggle(900, 5)), []int{2}, sp(0, 0), api.ErrDown}, {sensed(0, toggle(900, 5)), []int{-1}, sp(0, 0), api.ErrDown}, {sensed(0, toggle(900, 5)), []int{math.MaxInt}, sp(0, 0), api.ErrDown}, {sensed(0, toggle(900, 5)), []int{math.MinInt}, sp(0, 0), api.ErrDown}, {sensed(1, toggle(900, 5)), []int{2}, sp(0, 1000), api.OK},
		// The positions need not be next to each other.
		{sensed(1, toggle(900, 0), toggle(100, 0)), []int{1, 0}, sp(0, 1000), api.OK}, {sensed(2, one, toggle(900, 0), toggle(100, 0)), []int{500, 1, 0}, sp(0, 1000), api.OK}, {sensed(1, one, toggle(900, 0), toggle(100, 0)), []int{500, 1, 0}, sp(0, 0), api.ErrDown},
		// There are not as many readings as sensors.
		{east(), nil, sp(0, 0), api.ErrArg}, {east(), []int{500, 510}, sp(0, 0), api.ErrArg}, {east(), []int{500, 510, 0, 0}, sp(0, 0), api.ErrArg}, {sensed(0), []int{0}, sp(0, 0), api.ErrArg}, {sensed(1, one), nil, sp(0, 0), api.ErrArg},
	} {
		if x, e := gate.Where(c.g, c.readings); x != c.want || e != c.e {
			t.Errorf("%d: Where of %v = %v, %d, want %v, %d", i, c.readings, x, e, c.want, c.e)
		}
		if end, e := gate.Sure(c.g, c.readings); e != c.e || end != endOf(c.g, c.want, c.e) {
			t.Errorf("%d: Sure of %v = %d, %d", i, c.readings, end, e)
		}
	}
}

// endOf returns the end of a gate at which a span is.
func endOf(g api.GtGate, s api.Span, e api.Errno) int {
	switch {
	case e == api.OK && s.Hi <= g.Slack:
		return api.GtOpenEnd
	case e == api.OK && s.Lo >= g.Travel-g.Slack:
		return api.GtShutEnd
	}
	return api.GtNoEnd
}

func TestSure(t *testing.T) {
	for _, c := range []struct{ reading, want int }{{5, api.GtOpenEnd}, {0, api.GtOpenEnd}, {6, api.GtNoEnd}, {994, api.GtNoEnd}, {995, api.GtShutEnd}, {1000, api.GtShutEnd}, {500, api.GtNoEnd}} {
		if end, e := gate.Sure(sensed(0, encoder(5)), []int{c.reading}); end != c.want || e != api.OK {
			t.Errorf("Sure of %d = %d, %d", c.reading, end, e)
		}
	}
	exact := changed(sensed(0, encoder(0)), func(g *api.GtGate) { g.Slack = 0 })
	for _, c := range []struct{ reading, want int }{{0, api.GtOpenEnd}, {1, api.GtNoEnd}, {999, api.GtNoEnd}, {1000, api.GtShutEnd}} {
		if end, e := gate.Sure(exact, []int{c.reading}); end != c.want || e != api.OK {
			t.Errorf("Sure of %d = %d, %d", c.reading, end, e)
		}
	}
	if end, e := gate.Sure(east(), []int{1000, 990, 1}); end != api.GtShutEnd || e != api.OK {
		t.Errorf("Sure = %d, %d", end, e)
	}
	if end, e := gate.Sure(east(), []int{500, 510, 0}); end != api.GtNoEnd || e != api.OK {
		t.Errorf("Sure = %d, %d", end, e)
	}
}

// P3.6
func TestBolt(t *testing.T) {
	loose, fast := api.GtState{Pos: 500, Charge: 7}, api.GtState{Pos: 500, Charge: 7, Bolted: true}
	shut, open, between, torn := []int{1000, 990, 1}, []int{0, 0, 0}, []int{500, 510, 0}, []int{500, 900, 1}
	zero := api.GtState{}
	for i, c := range []struct {
		s        api.GtState
		on       bool
		readings []int
		want     api.GtState
		e        api.Errno
	}{
		{loose, true, shut, fast, api.OK}, {loose, true, open, fast, api.OK}, {loose, true, between, zero, api.ErrDown}, {loose, true, torn, zero, api.ErrDown}, {loose, true, nil, zero, api.ErrArg}, {loose, true, []int{0, 0}, zero, api.ErrArg},
		{fast, true, shut, zero, api.ErrTwice}, {fast, true, nil, zero, api.ErrTwice}, {fast, true, between, zero, api.ErrTwice},
		{fast, false, nil, loose, api.OK}, {fast, false, between, loose, api.OK}, {fast, false, torn, loose, api.OK}, {fast, false, make([]int, 99), loose, api.OK},
		{loose, false, nil, zero, api.ErrNone}, {loose, false, shut, zero, api.ErrNone},
		{at(-1), true, nil, zero, api.ErrRange}, {at(1001), false, nil, zero, api.ErrRange}, {api.GtState{Charge: 201, Bolted: true}, true, shut, zero, api.ErrRange}, {api.GtState{Charge: -1, Bolted: true}, false, shut, zero, api.ErrRange}, {at(math.MaxInt), true, shut, zero, api.ErrRange},
	} {
		if s, e := gate.Bolt(east(), c.s, c.on, c.readings); s != c.want || e != c.e {
			t.Errorf("%d: Bolt = %v, %d, want %v, %d", i, s, e, c.want, c.e)
		}
	}
}

// says reports, by the definition, whether a sensor agrees with a position.
func says(s api.GtSensor, reading, pos int) bool {
	if s.Kind == api.GtSwitch {
		return reading == 1 && pos >= s.At-s.Tol || reading == 0 && pos <= s.At+s.Tol
	}
	return pos >= reading-s.Tol && pos <= reading+s.Tol
}

// someReadings returns readings that are right for a position, of which so many are replaced by others.
func someReadings(r *rand.Rand, g api.GtGate, pos, wrong int) []int {
	var l []int
	for _, s := range g.Sensors {
		reading := pos + r.IntN(2*s.Tol+1) - s.Tol
		if s.Kind == api.GtSwitch {
			reading = r.IntN(2)
			if !says(s, reading, pos) {
				reading = 1 - reading
			}
		}
		l = append(l, reading)
	}
	for range wrong {
		i := r.IntN(len(l))
		if g.Sensors[i].Kind == api.GtSwitch {
			l[i] = r.IntN(4) - 1
		} else {
			l[i] = r.IntN(3*g.Travel) - g.Travel
		}
	}
	return l
}

// P3.5 by its definition, position by position.
func TestWhereIsExact(t *testing.T) {
	r := random()
	seen := map[api.Errno]int{}
	for range 3000 {
		g := someGate(r, "g")
		readings := someReadings(r, g, from(r, 0, g.Travel), min(r.IntN(4), len(g.Sensors)))
		var found []int
		for pos := 0; pos <= g.Travel; pos++ {
			against := 0
			for i, s := range g.Sensors {
				if !says(s, readings[i], pos) {
					against++
				}
			}
			if against <= g.Wrong {
				found = append(found, pos)
			}
		}
		x, e := gate.Where(g, readings)
		seen[e]++
		if len(found) == 0 && (e != api.ErrDown || x != sp(0, 0)) || len(found) > 0 && (e != api.OK || x != sp(slices.Min(found), slices.Max(found))) {
			t.Fatalf("%v: Where of %v = %v, %d, want %v", g, readings, x, e, found)
		}
		end, e1 := gate.Sure(g, readings)
		if e1 != e || end != endOf(g, x, e) {
			t.Fatalf("%v: Sure of %v = %d, %d, by %v", g, readings, end, e1, x)
		}
	}
	if seen[api.OK] < 100 || seen[api.ErrDown] < 100 {
		t.Errorf("errors: %v", seen)
	}
}

// P3.12, P3.13: if no more sensors are wrong than are said to be, the position is in Where; and a gate that is bolted then is at an end, and stays there.
func TestSensorsHoldTruth(t *testing.T) {
	r := random()
	bolted := 0
	for range 4000 {
		g := someGate(r, "g")
		pos := []int{0, g.Travel, from(r, 0, g.Travel)}[r.IntN(3)]
		readings := someReadings(r, g, pos, min(g.Wrong, len(g.Sensors)))
		x, e := gate.Where(g, readings)
		if e != api.OK || pos < x.Lo || pos > x.Hi {
			t.Fatalf("%v: Where of %v = %v, %d, the gate is at %d", g, readings, x, e, pos)
		}
		s, e := gate.Bolt(g, at(pos), true, readings)
		if e != api.OK {
			continue
		}
		bolted++
		if !s.Bolted || s.Pos != pos || pos > g.Slack && pos < g.Travel-g.Slack {
			t.Fatalf("%v: bolted at %d by %v: %v", g, pos, readings, s)
		}
		var steps []api.GtStep
		for range 10 {
			steps = append(steps, someStep(r))
		}
		states, _ := gate.Run(g, s, steps)
		for _, after := range states {
			if after.Pos != pos || !after.Bolted {
				t.Fatalf("%v: bolted at %d, and then %v", g, pos, after)
			}
		}
		if s, e = gate.Bolt(g, states[9], false, nil); e != api.OK || s.Bolted || s.Pos != pos {
			t.Fatalf("%v: Bolt = %v, %d", g, s, e)
		}
	}
	if bolted < 200 {
		t.Errorf("bolted %d times", bolted)
	}
}
