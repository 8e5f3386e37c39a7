package basin

import (
	"barrage/api"
	"barrage/round"
)

// height is a number of mm above the datum, whole or not.
type height interface {
	// fraction returns its numerator, and its denominator, which is above 0.
	fraction() (n, by int)
}

// level is the exact level of a volume, as a numerator and a denominator.
type level struct{ n, by int }

// mark is a height in whole mm: the level outside, the crest, a sill, a limit.
type mark int

func (l level) fraction() (n, by int) { return l.n, l.by }

func (m mark) fraction() (n, by int) { return int(m), 1 }

// above reports whether a level is above a height.
func (l level) above(h height) bool {
	n, by := h.fraction()
	return l.n*by > n*l.by
}

// span returns the span from a level, rounded down, to it, rounded up.
func (l level) span() api.Span {
	return api.Span{Lo: round.Down(l.n, l.by), Hi: round.Up(l.n, l.by)}
}

// flow returns what flows from one height to another one in a tick, rounded down, by the rate for each mm. Only one of the heights is a level, so the products are small enough for an int.
func flow(rate int, from, to height) int {
	n, by := from.fraction()
	m, per := to.fraction()
	return round.Down(rate*(n*per-m*by), by*per)
}

// piece is two neighbouring rows, by which levels and volumes follow from each other between them; above the last row it goes on as in the last piece.
type piece struct{ below, above api.BsRow }

// high returns the difference of the levels.
func (p piece) high() int { return p.above.Level - p.below.Level }

// wide returns the difference of the volumes.
func (p piece) wide() int { return p.above.Volume - p.below.Volume }

// lastPiece returns the last piece whose lower row is not above something; that of the first one never is.
func lastPiece(rows []api.BsRow, isAbove func(api.BsRow) bool) piece {
	at := 0
	for at+2 < len(rows) && !isAbove(rows[at+1]) {
		at++
	}
	return piece{rows[at], rows[at+1]}
}

// levelOf returns the exact level of a volume of a basin.
func levelOf(b api.BsBasin, volume int) level {
	p := lastPiece(b.Rows, func(r api.BsRow) bool { return r.Volume > volume })
	return level{n: p.below.Level*p.wide() + (volume-p.below.Volume)*p.high(), by: p.wide()}
}

// volumeAt returns the greatest volume of a basin whose exact level is at most a whole one.
func volumeAt(b api.BsBasin, level int) int {
	p := lastPiece(b.Rows, func(r api.BsRow) bool { return r.Level > level })
	return min(p.below.Volume+round.Down((level-p.below.Level)*p.wide(), p.high()), api.MaxVolume)
}
