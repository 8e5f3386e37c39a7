// Package probe has what the tests of the layers share: numbers at the ends of their ranges, and counts of what happened in random tests. No layer calls it.
package probe

import (
	"math"

	"barrage/api"
)

// Test is what a test of package testing does here.
type Test interface {
	Helper()
	Errorf(format string, args ...any)
}

// Number is a number in an argument, with its least and its greatest value, and the error beyond them.
type Number struct {
	name   string
	at     *int
	lo, hi int
	e      api.Errno
}

// Field returns a number that may be from lo to hi.
func Field(name string, at *int, lo, hi int, e api.Errno) Number {
	return Number{name, at, lo, hi, e}
}

// Look calls a function with the argument that has the numbers, and returns the part and the index at which it finds an error.
type Look func() (part, at int, e api.Errno)

// Ends sets each number to its ends, where there is no error, and beyond them, where it is in one part, at one index.
func Ends(t Test, part, index int, look Look, l ...Number) {
	t.Helper()
	for _, n := range l {
		old := *n.at
		for _, x := range []int{n.lo, n.hi, n.lo - 1, n.hi + 1, math.MinInt, math.MinInt / 2, math.MaxInt/2 + 1, math.MaxInt} {
			*n.at = x
			p, at, e := look()
			isRight := n.lo <= x && x <= n.hi
			if isRight && (p != 0 || at != 0 || e != api.OK) || !isRight && (p != part || at != index || e != n.e) {
				t.Errorf("%s = %d: %d, %d, %d", n.name, x, p, at, e)
			}
		}
		*n.at = old
	}
}

// Counts is how often something happened, by its name.
type Counts map[string]int

// Note counts something if it happened.
func (c Counts) Note(name string, happened bool) {
	if happened {
		c[name]++
	}
}

// Least checks that each of some things happened at least so often.
func (c Counts) Least(t Test, least int, names ...string) {
	t.Helper()
	for _, name := range names {
		if c[name] < least {
			t.Errorf("%s: %d times", name, c[name])
		}
	}
}
