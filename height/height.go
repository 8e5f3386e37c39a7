// Package height has the exact levels of water in a basin, as the layers need them: they are rational numbers of mm.
package height

import (
	"cmp"

	"barrage/api"
	"barrage/round"
)

// Height is a number of mm above the datum, whole or not.
type Height interface {
	// fraction returns its numerator, and its denominator, which is above 0.
	fraction() (n, by int)
}

// Level is the exact level of a volume, as a numerator and a denominator.
type Level struct{ n, by int }

// Mark is a height in whole mm: the level outside, the crest, a sill, a limit.
type Mark int

func (l Level) fraction() (n, by int) { return l.n, l.by }

func (m Mark) fraction() (n, by int) { return int(m), 1 }

// compare returns whether a level is below a height (-1), above it (1), or at it. One of them is whole, so the products are small enough for an int.
func (l Level) compare(h Height) int {
	n, by := h.fraction()
	return cmp.Compare(l.n*by, n*l.by)
}

// Above reports whether a level is above a height in whole mm.
func (l Level) Above(h Height) bool { return l.compare(h) > 0 }

// Below reports whether a level is below a height in whole mm.
func (l Level) Below(h Height) bool { return l.compare(h) < 0 }

// Span returns the span from a level, rounded down, to it, rounded up.
func (l Level) Span() api.Span {
	return api.Span{Lo: round.Down(l.n, l.by), Hi: round.Up(l.n, l.by)}
}

// Flow returns what flows from one height to another one in a tick, rounded down, by the rate for each mm, which is at most MaxRnEnergy. Only one of the heights is a level, so the products are small enough for an int.
func Flow(rate int, from, to Height) int {
	n, by := from.fraction()
	m, per := to.fraction()
	return round.Down(rate*(n*per-m*by), by*per)
}

// piece is two neighbouring rows, by which levels and volumes follow from each other between them; above the last row it goes on as in the last piece.
type piece struct{ below, above api.BsRow }

// high returns the difference of the levels.
func (p piece) high() int { return p.above.Level - p.below.Level }

// wide returns the difference of the volumes.
func (p piece) wide() int { return p.above.Volume - p.below.Volume }

// lastPiece returns the last piece whose lower row is not above something; that of the first one never is.
func lastPiece(rows []api.BsRow, isAbove func(api.BsRow) bool) piece {
	at := 0
	for at+2 < len(rows) && !isAbove(rows[at+1]) {
		at++
	}
	return piece{rows[at], rows[at+1]}
}

// Of returns the exact level of a volume of a basin, by its rows, which have no error.
func Of(rows []api.BsRow, volume int) Level {
	p := lastPiece(rows, func(r api.BsRow) bool { return r.Volume > volume })
	return Level{n: p.below.Level*p.wide() + (volume-p.below.Volume)*p.high(), by: p.wide()}
}

// Volume returns the greatest volume of a basin, by its rows, whose exact level is at most a whole one.
func Volume(rows []api.BsRow, level int) int {
	p := lastPiece(rows, func(r api.BsRow) bool { return r.Level > level })
	return min(p.below.Volume+round.Down((level-p.below.Level)*p.wide(), p.high()), api.MaxVolume)
}
