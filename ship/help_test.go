package ship_test

import (
	"math/rand/v2"
	"reflect"
	"slices"

	"barrage/api"
	"barrage/ship"
)

// random returns the same numbers in each run of a test.
func random() *rand.Rand { return rand.New(rand.NewPCG(6, 6)) }

// from returns a random number from lo to hi.
func from(r *rand.Rand, lo, hi int) int { return lo + r.IntN(hi-lo+1) }

func all[T any](n int, x T) []T { return slices.Repeat([]T{x}, n) }

// The ships of the chapter, by their indices in estuary.
const (
	bulk = iota
	ferry
	tanker
)

// estuary is the chapter's P.
func estuary() api.ShPort {
	return api.ShPort{
		Openings: []api.ShOpening{{Name: "main", Width: 400, Sill: -10000, Shut: []api.ShSpan{{From: 20, Until: 40}}}},
		Anchors:  []api.ShAnchor{{Name: "road", Room: 300, Turn: 250}, {Name: "pool", Inside: true, Room: 200, Turn: 100}},
		Ships: []api.ShShip{
			{Name: "bulk", Length: 200, Beam: 300, Draught: 8000, Ready: 10, Pass: 4, Until: -1, Value: 50},
			{Name: "ferry", Inside: true, Length: 80, Beam: 150, Draught: 5000, Ready: 12, Pass: 2, Until: 18, Value: 30},
			{Name: "tanker", Length: 240, Beam: 380, Draught: 9000, Ready: 15, Pass: 5, Until: 30, Value: 80},
		},
		Levels: api.Series{Values: make([]int, 60)}, Keel: 1000, Follow: 1, Gap: 3, Margin: 2,
	}
}

// boat is a small ship from outside that passes in 2 ticks.
func boat(name string, ready int) api.ShShip {
	return api.ShShip{Name: name, Length: 10, Ready: ready, Pass: 2, Until: -1, Value: 1}
}

// harbour is a port with an opening that is never shut, from the tick 100 on, and an anchorage on each side that has room for two boats; between ships there are 2 ticks, or 5 if one comes the other way.
func harbour(ships ...api.ShShip) api.ShPort {
	return api.ShPort{
		Openings: []api.ShOpening{{Name: "main"}},
		Anchors:  []api.ShAnchor{{Name: "out", Room: 20, Turn: 10}, {Name: "in", Inside: true, Room: 20, Turn: 10}},
		Ships:    ships,
		Levels:   api.Series{From: 100, Values: make([]int, 50)}, Follow: 2, Gap: 5,
	}
}

// changed returns a port that is changed.
func changed(p api.ShPort, change func(p *api.ShPort)) api.ShPort {
	p = copyPort(p)
	change(&p)
	return p
}

// inbound returns a ship that comes from inside.
func inbound(s api.ShShip) api.ShShip {
	s.Inside = true
	return s
}

// pass is a passage through the first opening.
func pass(start, anchor int) api.ShPassage { return api.ShPassage{Start: start, Anchor: anchor} }

func turned(anchor int) api.ShPassage { return api.ShPassage{Opening: -1, Start: -1, Anchor: anchor} }

func passages(l ...api.ShPassage) []api.ShPassage { return l }

// first is the chapter's plan by 0, 1, 2, and second that by 1, 0, 2.
func first() []api.ShPassage { return passages(pass(10, -1), turned(1), turned(0)) }

func second() []api.ShPassage { return passages(pass(40, 0), pass(12, -1), turned(0)) }

func fault(e api.Errno, ship int) api.ShFault { return api.ShFault{Error: e, Ship: ship} }

func copyPort(p api.ShPort) api.ShPort {
	p.Openings, p.Anchors, p.Ships = slices.Clone(p.Openings), slices.Clone(p.Anchors), slices.Clone(p.Ships)
	for i := range p.Openings {
		p.Openings[i].Shut = slices.Clone(p.Openings[i].Shut)
	}
	p.Levels.Values = slices.Clone(p.Levels.Values)
	return p
}

// question is what all functions are asked about a port.
type question struct {
	ship, opening, tick int
	order               []int
	plan, after         []api.ShPassage
}

// answers is all that the functions say of a port.
type answers struct {
	part, at    int
	why         api.Errno
	faults      []api.ShFault
	value, held int
	plan        []api.ShPassage
	order       []int
	best        []api.ShPassage
	in, free    int
	again       []api.ShPassage
	turned      []int
	errors      [10]api.Errno
}

// ask calls each function.
func ask(p api.ShPort, q question) (a answers) {
	a.part, a.at, a.errors[0] = ship.Check(p)
	a.why, a.errors[1] = ship.Fits(p, q.ship, q.opening, q.tick)
	a.plan, a.errors[2] = ship.Plan(p, q.order)
	a.order, a.best, a.errors[3] = ship.Best(p)
	a.faults, a.errors[4] = ship.Judge(p, q.plan)
	a.value, a.held, a.errors[5] = ship.Worth(p, q.plan)
	a.in, a.errors[6] = ship.In(p, q.plan, q.opening, q.tick)
	a.free, a.errors[7] = ship.Free(p, q.plan, q.opening, q.tick)
	a.again, a.errors[8] = ship.Replan(p, q.plan, q.tick)
	a.turned, a.errors[9] = ship.Turned(p, q.plan, q.after)
	return a
}

// areZero reports whether nothing but errors is said, and where that of Check is.
func (a answers) areZero() bool {
	return reflect.DeepEqual(a, answers{part: a.part, at: a.at, errors: a.errors})
}
