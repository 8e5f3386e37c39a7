// Package tide is layer 1, the tide and the gauges: see shared/doc/01-tide.md.
package tide

import (
	"math"

	"barrage/api"
	"barrage/check"
)

// minHeights is the least number of heights of a constituent.
const minHeights = 2

// Name reports whether a string is a name.
func Name(s string) bool {
	if len(s) == 0 || len(s) > api.MaxName || !isLetter(s[0]) {
		return false
	}
	for i := range len(s) {
		if !isLetter(s[i]) && !isDigit(s[i]) && s[i] != '-' {
			return false
		}
	}
	return true
}

func isLetter(c byte) bool { return 'a' <= c && c <= 'z' }

func isDigit(c byte) bool { return '0' <= c && c <= '9' }

// Check returns the index of the first constituent with an error (-1: the table itself), and the error.
func Check(t api.TdTable) (at int, e api.Errno) {
	_, at, e = check.First(
		check.Must(check.IsLevel(t.Mean), -1, api.ErrRange),
		check.Must(len(t.Consts) <= api.MaxTdConsts, -1, api.ErrLong),
		check.Each(len(t.Consts), func(i int) api.Errno { return constError(t.Consts, i) }),
	)
	return at, e
}

// constError returns the error of a constituent; those before it have none.
func constError(l []api.TdConst, i int) api.Errno {
	c := l[i]
	if !Name(c.Name) {
		return api.ErrForm
	}
	for _, o := range l[:i] {
		if o.Name == c.Name {
			return api.ErrTwice
		}
	}
	if !check.In(len(c.Heights), minHeights, api.MaxTdHeights) {
		return api.ErrLong
	}
	for _, h := range c.Heights {
		if !check.In(h, -api.MaxTdHeight, api.MaxTdHeight) {
			return api.ErrRange
		}
	}
	// Den comes before Offset, whose greatest number is only known with a Den that is right.
	if !check.In(c.Den, 1, api.MaxTdDen) || !check.In(c.Offset, 0, cycle(c)-1) || !check.In(c.Step, 1, api.MaxTdStep) || !check.In(c.Slack, 0, api.MaxTdSlack) {
		return api.ErrRange
	}
	return api.OK
}

// Level returns the level of the tide at a tick.
func Level(t api.TdTable, tick int) (api.Span, api.Errno) {
	if _, e := Check(t); e != api.OK {
		return api.Span{}, e
	}
	if !check.IsTick(tick) {
		return api.Span{}, api.ErrRange
	}
	return levelsOf(t, tick, 1)[0], api.OK
}

// Levels returns the levels of the tide at some ticks.
func Levels(t api.TdTable, from, n int) ([]api.Span, api.Errno) {
	if _, e := Check(t); e != api.OK {
		return nil, e
	}
	if !check.In(n, 0, api.MaxTdTicks) {
		return nil, api.ErrLong
	}
	if !areTicks(from, n) {
		return nil, api.ErrRange
	}
	return levelsOf(t, from, n), api.OK
}

// areTicks reports whether n numbers from one on are ticks; n is not below 0, and the length of a list at most, so that no sum is too great for an int.
func areTicks(from, n int) bool { return n == 0 || check.IsTick(from) && check.IsTick(from+n-1) }

// levelsOf returns the levels of the tide at n ticks, by a table without an error.
func levelsOf(t api.TdTable, from, n int) []api.Span {
	l := make([]api.Span, n)
	for i := range l {
		l[i] = api.Span{Lo: t.Mean, Hi: t.Mean}
	}
	for _, c := range t.Consts {
		next := places(c, from)
		for i := range l {
			l[i] = span{l[i]}.plus(part(c, next())).Span
		}
	}
	return l
}

// cycle returns the number of parts of the cycle of a constituent.
func cycle(c api.TdConst) int { return c.Den * len(c.Heights) }

// place is where a constituent is in its cycle: behind which of its heights, and how many parts.
type place struct{ height, behind int }

// places returns a function that gives the place of a constituent at a tick, and at the next tick each time it is called again.
func places(c api.TdConst, tick int) func() place {
	p := (c.Offset + c.Step*tick) % cycle(c)
	return func() place {
		here := place{height: p / c.Den, behind: p % c.Den}
		p = (p + c.Step) % cycle(c)
		return here
	}
}

// part returns the part of a constituent at a place.
func part(c api.TdConst, p place) span {
	next := (p.height + 1) % len(c.Heights)
	n := c.Heights[p.height]*(c.Den-p.behind) + c.Heights[next]*p.behind
	return quotient(n, c.Den).wider(c.Slack)
}

// High returns the ticks at which the tide can be highest.
func High(t api.TdTable, from, n int) ([]int, api.Errno) {
	l, e := Levels(t, from, n)
	if e != api.OK {
		return nil, e
	}
	sure := math.MinInt
	for _, s := range l {
		sure = max(sure, s.Lo)
	}
	var high []int
	for i, s := range l {
		if s.Hi >= sure {
			high = append(high, from+i)
		}
	}
	return high, api.OK
}

// Period returns after how many ticks a table begins again.
func Period(t api.TdTable) (int, api.Errno) {
	if _, e := Check(t); e != api.OK {
		return 0, e
	}
	period := 1
	for _, c := range t.Consts {
		own := cycle(c) / divisor(cycle(c), c.Step)
		period *= own / divisor(period, own)
		// It only grows: to stop here keeps the products small.
		if period > api.MaxTdPeriod {
			return 0, api.ErrLong
		}
	}
	return period, api.OK
}

// divisor returns the greatest common divisor of two numbers above 0.
func divisor(a, b int) int {
	for b != 0 {
		a, b = b, a%b
	}
	return a
}
