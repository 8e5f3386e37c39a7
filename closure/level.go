package closure

import (
	"cmp"
	"math"

	"barrage/api"
	"barrage/basin"
)

// level is a level inside, with its roundings. One that is not whole is that of a volume of the basin, by which two with the same roundings are told apart; so levels that are equal are equal values.
type level struct {
	api.Span
	volume int
}

// whole returns the level that is a number of mm.
func whole(mm int) level { return level{Span: api.Span{Lo: mm, Hi: mm}} }

// tooGreat returns the level that is above each limit.
func tooGreat() level { return whole(math.MaxInt) }

// levelOf returns the exact level of a volume.
func levelOf(b api.BsBasin, volume int) level {
	l := level{volume: volume}
	l.Span, _ = basin.Level(b, volume)
	if l.Lo == l.Hi {
		return whole(l.Lo)
	}
	return l
}

// compare returns whether a level is below another one (-1), above it (1), or equal: a greater volume has a greater level.
func (l level) compare(o level) int {
	return cmp.Or(cmp.Compare(l.Lo, o.Lo), cmp.Compare(l.Hi, o.Hi), cmp.Compare(l.volume, o.volume))
}
