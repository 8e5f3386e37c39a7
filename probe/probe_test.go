package probe_test

import (
	"fmt"
	"math"
	"slices"
	"testing"

	"barrage/api"
	"barrage/probe"
)

// list is a test that keeps its errors.
type list []string

func (l *list) Helper() {}

func (l *list) Errorf(format string, args ...any) { *l = append(*l, fmt.Sprintf(format, args...)) }

// A number that has no error within its range, and the right one at the right place beyond it, passes.
func TestEnds(t *testing.T) {
	x := 7
	for i, c := range []struct {
		lo, hi   int // without an error
		part, at int
		e        api.Errno
		ok       bool
	}{
		{5, 9, 2, 3, api.ErrRange, true},
		{6, 9, 2, 3, api.ErrRange, false}, {4, 9, 2, 3, api.ErrRange, false}, {5, 10, 2, 3, api.ErrRange, false}, {5, 8, 2, 3, api.ErrRange, false},
		{5, math.MaxInt, 2, 3, api.ErrRange, false}, {math.MinInt, 9, 2, 3, api.ErrRange, false},
		{5, 9, 1, 3, api.ErrRange, false}, {5, 9, 2, 2, api.ErrRange, false}, {5, 9, 2, 3, api.ErrArg, false},
	} {
		var errors list
		probe.Ends(&errors, 2, 3, func() (part, at int, e api.Errno) {
			if c.lo <= x && x <= c.hi {
				return 0, 0, api.OK
			}
			return c.part, c.at, c.e
		}, probe.Field("x", &x, 5, 9, api.ErrRange))
		if (len(errors) == 0) != c.ok || x != 7 {
			t.Errorf("%d: %v, x = %d", i, errors, x)
		}
	}
}

// Without an error part and index are 0, and each number is looked at.
func TestEndsOfAll(t *testing.T) {
	x, y := 1, 2
	for i, c := range []struct{ part, at int }{{0, 0}, {1, 0}, {0, 1}} {
		var errors list
		seen := 0
		probe.Ends(&errors, 0, 0, func() (part, at int, e api.Errno) {
			seen++
			return c.part, c.at, api.OK
		}, probe.Field("x", &x, math.MinInt, math.MaxInt, api.ErrRange), probe.Field("y", &y, math.MinInt, math.MaxInt, api.ErrRange))
		if (len(errors) == 0) != (i == 0) || seen < 4 {
			t.Errorf("%d: %v, %d looks", i, errors, seen)
		}
	}
}

func TestCounts(t *testing.T) {
	c := probe.Counts{}
	for i := range 5 {
		c.Note("all", true)
		c.Note("some", i < 3)
		c.Note("none", false)
	}
	for least, want := range map[int][]string{0: nil, 1: {"none: 0 times"}, 3: {"none: 0 times"}, 4: {"some: 3 times", "none: 0 times"}} {
		var errors list
		c.Least(&errors, least, "all", "some", "none")
		if !slices.Equal(errors, want) {
			t.Errorf("Least %d: %v", least, errors)
		}
	}
}
