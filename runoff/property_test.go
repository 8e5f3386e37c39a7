package runoff_test

import (
	"math/big"
	"math/rand/v2"
	"slices"
	"testing"

	"barrage/api"
	"barrage/basin"
	"barrage/probe"
	"barrage/runoff"
)

// kind is how large the numbers of random tasks are, at most: levels between rows, what they are apart in m3 beyond what makes the basin wide enough, rates for each mm, flows in a tick, energies and prices; and whether the basin is nearly full.
type kind struct {
	level, wide, rate, flow, energy, price int
	isFull                                 bool
}

// kinds are tasks in small basins in which roundings count, in such that are nearly full, and in large ones.
func kinds() []kind {
	return []kind{
		{40, 400, 3, 90, 6, 4, false}, {20, 200, 2, 60, 3, 2, false}, {40, 400, 3, 90, 6, 4, true},
		{8000, 150000000, api.MaxBsRate, api.MaxFlow, api.MaxRnEnergy, api.MaxRnPrice, false},
	}
}

// someBasin returns a random basin, wide enough, with up to two polders.
func (k kind) someBasin(r *rand.Rand) (b api.BsBasin) {
	b.Leak, b.Over = r.IntN(k.rate+1)*r.IntN(2), r.IntN(k.rate+1)
	takes := []int{r.IntN(k.rate + 1), r.IntN(k.rate + 1)}
	widest := max(b.Leak, takes[0], takes[1])
	row := api.BsRow{Level: -r.IntN(k.level), Volume: r.IntN(20)}
	for range from(r, 2, 4) {
		b.Rows = append(b.Rows, row)
		high := 1 + r.IntN(k.level/2)
		row.Level += high
		row.Volume += widest*high + 1 + r.IntN(k.wide)
	}
	if k.isFull {
		more := api.MaxVolume - r.IntN(k.flow) - b.Rows[len(b.Rows)-1].Volume
		for i := range b.Rows {
			b.Rows[i].Volume += more
		}
	}
	last := b.Rows[len(b.Rows)-1]
	b.Crest = last.Level + r.IntN(k.level)
	for i, take := range takes[:r.IntN(3)] {
		b.Polders = append(b.Polders, api.BsPolder{Name: string(rune('a' + i)), Sill: from(r, b.Rows[0].Level, last.Level), Take: take, Room: r.IntN(k.flow)})
	}
	return b
}

// someState returns a random state of a basin.
func (k kind) someState(r *rand.Rand, b api.BsBasin) (s api.BsState) {
	first, last := b.Rows[0].Volume, b.Rows[len(b.Rows)-1].Volume
	s.Volume = min(from(r, first, last+(last-first)/4), api.MaxVolume)
	for _, p := range b.Polders {
		s.Filled = append(s.Filled, r.IntN(p.Room+1))
	}
	return s
}

// some returns a random task of so many ticks and devices, at most, in which the level has to stay near that of its state.
func (k kind) some(r *rand.Rand, ticks, devices int) (t api.RnTask) {
	t.Basin = k.someBasin(r)
	t.State = k.someState(r, t.Basin)
	at, _ := basin.Level(t.Basin, t.State.Volume)
	for range ticks {
		t.Outer = append(t.Outer, min(max(at.Lo+from(r, -k.level/2, k.level/2), api.MinLevel), api.MaxLevel))
		t.River = append(t.River, r.IntN(k.flow))
		t.Prices = append(t.Prices, r.IntN(k.price+1))
	}
	t.Low = min(max(at.Lo-r.IntN(k.level/2), t.Basin.Rows[0].Level), api.MaxLevel)
	t.High = min(max(at.Lo+from(r, -k.level/8, k.level/2), t.Low), api.MaxLevel)
	for i := range from(r, max(devices-2, 0), min(devices, 2)) {
		t.Sluices = append(t.Sluices, api.RnSluice{Name: string(rune('a' + i)), Width: r.IntN(k.rate*2 + 1), Move: r.IntN(k.energy + 1)})
		t.Sluices[i].Width = min(t.Sluices[i].Width, api.MaxBsRate)
	}
	for range devices - len(t.Sluices) {
		t.Pumps = append(t.Pumps, k.somePump(r, string(rune('p'+len(t.Pumps)))))
	}
	t.On = someChoice(r, t)
	return t
}

func (k kind) somePump(r *rand.Rand, name string) api.RnPump {
	return api.RnPump{Name: name, Rate: r.IntN(k.flow + 1), Base: r.IntN(k.energy + 1), Lift: r.IntN(k.energy/2 + 1), Start: r.IntN(k.energy + 1)}
}

// someChoice returns a random choice for a task.
func someChoice(r *rand.Rand, t api.RnTask) (l []bool) {
	for range len(t.Sluices) + len(t.Pumps) {
		l = append(l, r.IntN(2) == 0)
	}
	return l
}

func somePlan(r *rand.Rand, t api.RnTask) (l [][]bool) {
	for range t.Outer {
		l = append(l, someChoice(r, t))
	}
	return l
}

// reference answers by the definitions, in exact fractions.
type reference struct{ api.RnTask }

func rat(n, by int) *big.Rat { return big.NewRat(int64(n), int64(by)) }

func down(x *big.Rat) int { return int(new(big.Int).Div(x.Num(), x.Denom()).Int64()) }

func up(x *big.Rat) int { return -down(new(big.Rat).Neg(x)) }

// level returns the exact level of a volume.
func (t reference) level(volume int) *big.Rat {
	rows := t.Basin.Rows
	a, b := rows[len(rows)-2], rows[len(rows)-1]
	for i := range len(rows) - 1 {
		if rows[i].Volume <= volume && rows[i+1].Volume > volume {
			a, b = rows[i], rows[i+1]
		}
	}
	x := rat(volume-a.Volume, b.Volume-a.Volume)
	x.Mul(x, rat(b.Level-a.Level, 1))
	return x.Add(x, rat(a.Level, 1))
}

// times returns how much the level is above a height, times a number.
func (t reference) times(n, volume, height int) *big.Rat {
	x := new(big.Rat).Sub(t.level(volume), rat(height, 1))
	return x.Mul(x, rat(n, 1))
}

// use returns what is to run off, and the energy; or RnErrHead.
func (t reference) use(s api.BsState, tick int, before, on []bool) (out, energy int, e api.Errno) {
	for i, d := range t.Sluices {
		if on[i] && t.level(s.Volume).Cmp(rat(t.Outer[tick], 1)) <= 0 {
			return 0, 0, api.RnErrHead
		}
		if on[i] {
			out += down(t.times(d.Width, s.Volume, t.Outer[tick]))
		}
		if on[i] != before[i] {
			energy += d.Move
		}
	}
	for i, d := range t.Pumps {
		i += len(t.Sluices)
		if !on[i] {
			continue
		}
		out += d.Rate
		energy += d.Base
		if rat(t.Outer[tick], 1).Cmp(t.level(s.Volume)) > 0 {
			energy += up(t.times(-d.Lift, s.Volume, t.Outer[tick]))
		}
		if !before[i] {
			energy += d.Start
		}
	}
	return min(out, api.MaxFlow), energy, api.OK
}

// do returns what happens in a tick, or its fault.
func (t reference) do(s api.BsState, tick int, before, on []bool) (d api.RnDone, fault api.Errno) {
	out, energy, e := t.use(s, tick, before, on)
	if e != api.OK {
		return api.RnDone{}, e
	}
	after, _, e := basin.Step(t.Basin, s, api.BsTick{Outer: t.Outer[tick], River: t.River[tick], Out: out})
	if e != api.OK {
		return api.RnDone{}, api.RnErrRoom
	}
	switch l := t.level(after.Volume); {
	case l.Cmp(rat(t.Low, 1)) < 0:
		return api.RnDone{}, api.RnErrLow
	case l.Cmp(rat(t.High, 1)) > 0:
		return api.RnDone{}, api.RnErrHigh
	}
	return api.RnDone{State: after, Out: out, Energy: energy, Cost: energy * t.Prices[tick]}, api.OK
}

// run does the ticks of a plan.
func (t reference) run(plan [][]bool) (l []api.RnDone, fault api.Errno) {
	s, before := t.State, t.On
	for tick, on := range plan {
		d, fault := t.do(s, tick, before, on)
		if fault != api.OK {
			return l, fault
		}
		l = append(l, d)
		s, before = d.State, on
	}
	return l, api.OK
}

// choices returns all choices of so many devices, in order: those in which the first one is off come before those in which it is on.
func choices(devices int) [][]bool {
	if devices == 0 {
		return [][]bool{nil}
	}
	var l [][]bool
	for _, first := range []bool{false, true} {
		for _, rest := range choices(devices - 1) {
			l = append(l, append([]bool{first}, rest...))
		}
	}
	return l
}

// best returns the first of the good rests of plans that cost least, from a tick on: all of them are done.
func (t reference) best(s api.BsState, tick int, before []bool) (plan [][]bool, cost int, found bool) {
	if tick == len(t.Outer) {
		return nil, 0, true
	}
	for _, on := range choices(len(t.On)) {
		d, fault := t.do(s, tick, before, on)
		if fault != api.OK {
			continue
		}
		rest, more, can := t.best(d.State, tick+1, on)
		if can && (!found || d.Cost+more < cost) {
			plan, cost, found = append([][]bool{on}, rest...), d.Cost+more, true
		}
	}
	return plan, cost, found
}

// least returns the least costs from each tick on, along a good plan.
func (t reference) least(plan [][]bool, l []api.RnDone) (costs []int) {
	s, before := t.State, t.On
	for tick := range len(plan) + 1 {
		_, cost, _ := t.best(s, tick, before)
		costs = append(costs, cost)
		if tick < len(plan) {
			s, before = l[tick].State, plan[tick]
		}
	}
	return costs
}

// P7.3 by the definition.
func TestUseByDefinition(t *testing.T) {
	r := random()
	counts := probe.Counts{}
	for i := range 20000 {
		kind := kinds()[i%4]
		k := kind.some(r, 2, r.IntN(5))
		s, tick, before, on := kind.someState(r, k.Basin), r.IntN(2), someChoice(r, k), someChoice(r, k)
		out, energy, e := runoff.Use(k, s, tick, before, on)
		wantOut, wantEnergy, want := reference{k}.use(s, tick, before, on)
		if out != wantOut || energy != wantEnergy || e != want {
			t.Fatalf("%v: Use at %v in %d of %v after %v = %d, %d, %d, want %d, %d, %d", k, s, tick, on, before, out, energy, e, wantOut, wantEnergy, want)
		}
		isWhole := reference{k}.level(s.Volume).IsInt()
		counts.Note("head", e == api.RnErrHead)
		counts.Note("at a fraction", e == api.OK && out > 0 && !isWhole)
		counts.Note("at a whole level", e == api.OK && out > 0 && isWhole)
		counts.Note("most", e == api.OK && out == api.MaxFlow)
	}
	counts.Least(t, 100, "head", "at a fraction", "at a whole level", "most")
}

// P7.4 by the definition.
func TestCheapestByDefinition(t *testing.T) {
	r := random()
	counts := probe.Counts{}
	for i := range 10000 {
		kind := kinds()[i%4]
		k := kind.some(r, 1, r.IntN(5))
		s, before := kind.someState(r, k.Basin), someChoice(r, k)
		least := min(r.IntN(kind.flow*2), api.MaxFlow)
		var want []bool
		takes, wantE, equal := 0, api.ErrDown, false
		for _, on := range choices(len(k.On)) {
			out, energy, e := reference{k}.use(s, 0, before, on)
			if e != api.OK || out < least {
				continue
			}
			equal = equal || wantE == api.OK && energy == takes
			if wantE != api.OK || energy < takes {
				want, takes, wantE = on, energy, api.OK
			}
		}
		if on, energy, e := runoff.Cheapest(k, s, 0, before, least); !slices.Equal(on, want) || energy != takes || e != wantE {
			t.Fatalf("%v: Cheapest at %v after %v for %d = %v, %d, %d, want %v, %d, %d", k, s, before, least, on, energy, e, want, takes, wantE)
		}
		counts.Note("none", wantE != api.OK)
		counts.Note("some", wantE == api.OK && takes > 0)
		counts.Note("equal", equal)
	}
	counts.Least(t, 300, "none", "some", "equal")
}

// P7.5 by the definition.
func TestDoByDefinition(t *testing.T) {
	r := random()
	faults, late := map[api.Errno]int{}, map[api.Errno]int{}
	for i := range 16000 {
		k := kinds()[i%4].some(r, 1+r.IntN(6), r.IntN(5))
		l := somePlan(r, k)
		want, wantFault := reference{k}.run(l)
		got, fault, e := runoff.Do(k, l)
		if !sameDone(got, want) || fault != wantFault || e != api.OK {
			t.Fatalf("%v: Do of %v = %v, %d, %d, want %v, %d", k, l, got, fault, e, want, wantFault)
		}
		sum := 0
		for _, d := range want {
			sum += d.Cost
		}
		if fault != api.OK {
			sum = 0
		}
		if cost, e := runoff.Cost(k, l); cost != sum || e != fault {
			t.Fatalf("%v: Cost of %v = %d, %d, want %d, %d", k, l, cost, e, sum, fault)
		}
		faults[fault]++
		if len(want) > 1 {
			late[fault]++
		}
	}
	for _, fault := range []api.Errno{api.OK, api.RnErrHead, api.RnErrLow, api.RnErrHigh, api.RnErrRoom} {
		if faults[fault] < 200 || late[fault] < 50 {
			t.Errorf("fault %d: %d times, %d of them after some ticks", fault, faults[fault], late[fault])
		}
	}
}

// sizes are numbers of ticks and devices with few enough plans to do them all.
func sizes() [][2]int {
	return [][2]int{{0, 4}, {1, 4}, {2, 4}, {2, 3}, {3, 3}, {3, 2}, {4, 2}, {5, 2}, {6, 1}, {6, 0}}
}

// someGood returns a random good plan, if it finds one soon.
func someGood(r *rand.Rand, k api.RnTask) (plan [][]bool, l []api.RnDone, found bool) {
	s, before := k.State, k.On
	for tick := range k.Outer {
		l, plan = append(l, api.RnDone{}), append(plan, nil)
		fault := api.RnErrHead
		for range 30 {
			if fault != api.OK {
				plan[tick] = someChoice(r, k)
				l[tick], fault = reference{k}.do(s, tick, before, plan[tick])
			}
		}
		if fault != api.OK {
			return nil, nil, false
		}
		s, before = l[tick].State, plan[tick]
	}
	return plan, l, true
}

// P7.6, P7.7 by the definitions: all plans are done.
func TestBestByDefinition(t *testing.T) {
	r := random()
	counts := probe.Counts{}
	for i := range 4000 {
		size := sizes()[r.IntN(len(sizes()))]
		k := kinds()[i%4].some(r, size[0], size[1])
		plan, cost, found := reference{k}.best(k.State, 0, k.On)
		want := api.OK
		if !found {
			want = api.ErrDown
		}
		if l, n, e := runoff.Best(k); !samePlan(l, plan) || n != cost || e != want {
			t.Fatalf("%v: Best = %v, %d, %d, want %v, %d, %d", k, l, n, e, plan, cost, want)
		}
		counts.Note("none", !found)
		if !found || size[0] == 0 {
			continue
		}
		good, l, can := someGood(r, k)
		if !can {
			continue
		}
		if got, e := runoff.Least(k, good); !slices.Equal(got, reference{k}.least(good, l)) || e != api.OK {
			t.Fatalf("%v: Least along %v = %v, %d, want %v", k, good, got, e, reference{k}.least(good, l))
		}
		n, _ := runoff.Cost(k, good)
		counts.Note("free", cost == 0)
		counts.Note("dear", cost > 0 && size[0] > 2)
		counts.Note("worse", n > cost)
		counts.Note("as good", n == cost && !samePlan(good, plan))
	}
	counts.Least(t, 200, "none", "free", "dear", "worse", "as good")
}
