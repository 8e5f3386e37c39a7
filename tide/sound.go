package tide

import (
	"cmp"
	"iter"
	"slices"

	"barrage/api"
	"barrage/check"
)

// voice is what one of some gauges says.
type voice struct {
	span
	gauge int
}

// speaking yields what those gauges say that say something, and do not contradict themselves.
func speaking(l []api.TdGauge, tick, now int) iter.Seq[voice] {
	return func(yield func(voice) bool) {
		for i, g := range l {
			s, e := says(g, tick, now)
			if e == api.OK && !yield(voice{span: s, gauge: i}) {
				return
			}
		}
	}
}

// voices returns all that gauges say.
func voices(l []api.TdGauge, tick, now int) []voice {
	var all []voice
	for v := range speaking(l, tick, now) {
		all = append(all, v)
	}
	return all
}

// inOrder returns the ends of all that is said, from below.
func inOrder(l []voice) []end {
	var all []end
	for _, v := range l {
		for _, x := range v.ends() {
			all = append(all, x)
		}
	}
	slices.SortFunc(all, func(a, b end) int {
		return cmp.Or(cmp.Compare(a.at, b.at), cmp.Compare(a.kind, b.kind))
	})
	return all
}

// agreed returns the levels that at least n voices say are possible, n above 0, as spans from below.
func agreed(l []voice, n int) []span {
	var found []span
	from := 0
	var passed [2]int
	for _, x := range inOrder(l) {
		open := passed[lower] - passed[upper]
		if x.kind == lower && open == n-1 {
			from = x.at
		}
		if x.kind == upper && open == n {
			found = append(found, between(from, x.at))
		}
		passed[x.kind]++
	}
	return found
}

// askError returns the error of what Sound and Agree are both asked.
func askError(l []api.TdGauge, tick, now int) api.Errno {
	_, _, e := check.First(
		check.Must(len(l) <= api.MaxTdGauges, 0, api.ErrLong),
		check.Each(len(l), func(i int) api.Errno {
			_, _, e := CheckGauge(l[i])
			return e
		}),
		check.Each(len(l), func(i int) api.Errno {
			if slices.ContainsFunc(l[:i], func(o api.TdGauge) bool { return o.Name == l[i].Name }) {
				return api.ErrTwice
			}
			return api.OK
		}),
		check.Must(check.IsTick(tick) && check.IsTick(now), 0, api.ErrRange),
	)
	return e
}

// Sound returns the level at a tick, if at most so many gauges are wrong.
func Sound(l []api.TdGauge, wrong, tick, now int) (api.Span, api.Errno) {
	if e := askError(l, tick, now); e != api.OK {
		return api.Span{}, e
	}
	if !check.In(wrong, 0, len(l)-1) {
		return api.Span{}, api.ErrRange
	}
	found := agreed(voices(l, tick, now), len(l)-wrong)
	if len(found) == 0 {
		return api.Span{}, api.ErrDown
	}
	return api.Span{Lo: found[0].Lo, Hi: found[len(found)-1].Hi}, api.OK
}

// Agree returns how many gauges agree on a level at a tick at most, and which do not.
func Agree(l []api.TdGauge, tick, now int) (many int, others []int, e api.Errno) {
	if e := askError(l, tick, now); e != api.OK {
		return 0, nil, e
	}
	said := voices(l, tick, now)
	var found []span
	for many = len(said); many > 0; many-- {
		if found = agreed(said, many); len(found) > 0 {
			break
		}
	}
	with := make([]bool, len(l))
	for _, v := range said {
		with[v.gauge] = slices.ContainsFunc(found, func(s span) bool { return !v.common(s).empty() })
	}
	for i, w := range with {
		if !w {
			others = append(others, i)
		}
	}
	return many, others, api.OK
}

// Residual returns by how much the level is above the tide.
func Residual(t api.TdTable, l []api.TdGauge, wrong, tick, now int) (api.Span, api.Errno) {
	if _, e := Check(t); e != api.OK {
		return api.Span{}, e
	}
	found, e := Sound(l, wrong, tick, now)
	if e != api.OK {
		return api.Span{}, e
	}
	// Sound has looked at the tick, and Check at the table.
	tidal := levelsOf(t, tick, 1)[0]
	return span{found}.less(span{tidal}).Span, api.OK
}
