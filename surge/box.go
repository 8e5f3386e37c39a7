package surge

import (
	"iter"
	"slices"

	"barrage/api"
)

// choice is, for each centre, the member that is chosen, or none; centres that the task does not have are not chosen.
type choice [api.MaxSgCentres]int

// nobody is the choice of no centre.
func nobody() choice {
	var c choice
	for centre := range c {
		c[centre] = none
	}
	return c
}

// alone is the choice of one member of one centre.
func alone(centre, member int) choice {
	c := nobody()
	c[centre] = member
	return c
}

// choices yields, in order, the choices that add just so many centres to a choice, all of them from a centre on.
func (k known) choices(c choice, from, more int) iter.Seq[choice] {
	return func(yield func(choice) bool) {
		if more == 0 {
			yield(c)
			return
		}
		if from == len(k.tubes) {
			return
		}
		for member := none; member < len(k.tubes[from]); member++ {
			left := more
			if member != none {
				left--
			}
			c[from] = member
			for full := range k.choices(c, from+1, left) {
				if !yield(full) {
					return
				}
			}
		}
	}
}

// box is the spans that follow from a choice.
type box struct {
	by choice
	spans
}

// box returns what follows from a choice; it may be empty.
func (k known) box(c choice) box {
	b := box{by: c, spans: slices.Clone(k.base)}
	k.visit(c, b.narrow)
	b.tighten(k.Rate)
	return b
}

// visit does something with the tube of each member that is chosen.
func (k known) visit(c choice, do func(tube spans)) {
	for centre, member := range c {
		if member != none {
			do(k.tubes[centre][member])
		}
	}
}

// boxes returns the boxes that are not empty, in order.
func (k known) boxes() []box {
	var l []box
	for c := range k.choices(nobody(), 0, k.needed()) {
		if b := k.box(c); !b.empty() {
			l = append(l, b)
		}
	}
	return l
}

// givesWay reports whether the High of a box is left out because of that of another one; of equal ones the first one stays.
func (b box) givesWay(o box) bool {
	if o.by == b.by {
		return false
	}
	above := false
	for i, x := range o.spans {
		if x.Hi < b.spans[i].Hi {
			return false
		}
		above = above || x.Hi > b.spans[i].Hi
	}
	return above || slices.Compare(o.by[:], b.by[:]) < 0
}

// highest returns the highest possible histories.
func (k known) highest() []api.Series {
	boxes := k.boxes()
	var l []api.Series
	for _, b := range boxes {
		if !slices.ContainsFunc(boxes, b.givesWay) {
			l = append(l, k.history(b.highs()))
		}
	}
	return l
}

func (k known) history(values []int) api.Series {
	return api.Series{From: k.From, Values: values}
}

// Boxes returns the sets of histories that are possible by what is known at a tick.
func Boxes(t api.SgTask, now int) ([]api.SgBox, api.Errno) {
	k, e := know(t, now)
	if e != api.OK {
		return nil, e
	}
	var l []api.SgBox
	for _, b := range k.boxes() {
		members := slices.Clone(b.by[:len(k.Centres)])
		l = append(l, api.SgBox{Members: members, Low: k.history(b.lows()), High: k.history(b.highs())})
	}
	return l, api.OK
}

// Possible returns the highest possible histories by what is known at a tick.
func Possible(t api.SgTask, now int) ([]api.Series, api.Errno) {
	k, e := know(t, now)
	if e != api.OK {
		return nil, e
	}
	return k.highest(), api.OK
}

// Envelope returns between which levels all possible histories are.
func Envelope(t api.SgTask, now int) (low, high api.Series, e api.Errno) {
	k, e := know(t, now)
	if e != api.OK {
		return api.Series{}, api.Series{}, e
	}
	boxes := k.boxes()
	if len(boxes) == 0 {
		return api.Series{}, api.Series{}, api.ErrDown
	}
	all := boxes[0]
	for _, b := range boxes {
		all.widen(b.spans)
	}
	return k.history(all.lows()), k.history(all.highs()), api.OK
}

// Peak returns between which levels the highest level of each possible history is.
func Peak(t api.SgTask, now int) (api.Span, api.Errno) {
	k, e := know(t, now)
	if e != api.OK {
		return api.Span{}, e
	}
	boxes := k.boxes()
	if len(boxes) == 0 {
		return api.Span{}, api.ErrDown
	}
	peak := api.Span{Lo: api.MaxLevel, Hi: api.MinLevel}
	for _, b := range boxes {
		peak.Lo = min(peak.Lo, slices.Max(b.lows()))
		peak.Hi = max(peak.Hi, slices.Max(b.highs()))
	}
	return peak, api.OK
}

// Ruled returns the indices of the highest histories of a tick that are not possible at another one.
func Ruled(t api.SgTask, then, now int) ([]int, api.Errno) {
	before, e := know(t, then)
	if e != api.OK {
		return nil, e
	}
	after, e := know(t, now)
	if e != api.OK {
		return nil, e
	}
	var l []int
	for i, s := range before.highest() {
		if !after.allows(s) {
			l = append(l, i)
		}
	}
	return l, api.OK
}

// Suspects returns the centres that cannot be right by what is known at a tick.
func Suspects(t api.SgTask, now int) ([]int, api.Errno) {
	k, e := know(t, now)
	if e != api.OK {
		return nil, e
	}
	var l []int
	for centre, tubes := range k.tubes {
		can := false
		for member := range tubes {
			can = can || !k.box(alone(centre, member)).empty()
		}
		if len(tubes) > 0 && !can {
			l = append(l, centre)
		}
	}
	return l, api.OK
}
