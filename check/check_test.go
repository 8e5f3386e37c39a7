package check_test

import (
	"math"
	"testing"

	"barrage/api"
	"barrage/check"
)

func TestFirst(t *testing.T) {
	fine := check.Must(true, 5, api.ErrArg)
	for i, c := range []struct {
		looks      []check.Look
		number, at int
		e          api.Errno
	}{
		{nil, 0, 0, api.OK},
		{[]check.Look{fine, fine}, 0, 0, api.OK},
		{[]check.Look{check.Must(false, 5, api.ErrArg), check.Must(false, 6, api.ErrLong)}, 1, 5, api.ErrArg},
		{[]check.Look{fine, fine, check.Must(false, -1, api.ErrLong)}, 3, -1, api.ErrLong},
	} {
		if number, at, e := check.First(c.looks...); number != c.number || at != c.at || e != c.e {
			t.Errorf("%d: First = %d, %d, %d", i, number, at, e)
		}
	}
}

// Behind the first error nothing is looked at.
func TestFirstLooksNoFurther(t *testing.T) {
	if number, _, e := check.First(check.Must(false, 0, api.ErrLong), func() (int, api.Errno) { panic("looked") }); number != 1 || e != api.ErrLong {
		t.Errorf("First = %d, %d", number, e)
	}
}

func TestEach(t *testing.T) {
	l := []api.Errno{api.OK, api.OK, api.ErrTwice, api.ErrForm}
	of := func(i int) api.Errno { return l[i] }
	for n, want := range map[int]api.Errno{0: api.OK, 2: api.OK, 3: api.ErrTwice, 4: api.ErrTwice} {
		at, e := check.Each(n, of)()
		if e != want || e == api.OK && at != 0 || e != api.OK && at != 2 {
			t.Errorf("Each of %d = %d, %d", n, at, e)
		}
	}
}

func TestRanges(t *testing.T) {
	for _, c := range []struct {
		x           int
		level, tick bool
	}{
		{0, true, true}, {-1, true, false}, {-20000, true, false}, {-20001, false, false}, {20000, true, true}, {20001, false, true}, {200000, false, true}, {200001, false, false}, {math.MinInt, false, false}, {math.MaxInt, false, false},
	} {
		if check.IsLevel(c.x) != c.level || check.IsTick(c.x) != c.tick {
			t.Errorf("%d: IsLevel = %v, IsTick = %v", c.x, check.IsLevel(c.x), check.IsTick(c.x))
		}
	}
	if check.In(3, 4, 2) || check.In(1, 2, 3) || check.In(4, 2, 3) || !check.In(2, 2, 3) || !check.In(3, 2, 3) {
		t.Errorf("In is wrong")
	}
}
