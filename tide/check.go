package tide

import "barrage/api"

// check looks for an error, and returns the index at which it is, and the error.
type check func() (at int, e api.Errno)

// first does checks one after the other until one finds an error, and returns the number of this check (from 1 on) and what it found.
func first(checks ...check) (number, at int, e api.Errno) {
	for i, c := range checks {
		if at, e := c(); e != api.OK {
			return i + 1, at, e
		}
	}
	return 0, 0, api.OK
}

// must is the check that something holds.
func must(ok bool, at int, e api.Errno) check {
	return func() (int, api.Errno) {
		if ok {
			return 0, api.OK
		}
		return at, e
	}
}

// each is the check of n elements, the first of which that has an error decides.
func each(n int, of func(i int) api.Errno) check {
	return func() (int, api.Errno) {
		for i := range n {
			if e := of(i); e != api.OK {
				return i, e
			}
		}
		return 0, api.OK
	}
}

func in(x, lo, hi int) bool { return lo <= x && x <= hi }

func isLevel(x int) bool { return in(x, api.MinLevel, api.MaxLevel) }

func isTick(x int) bool { return in(x, 0, api.MaxTick) }

// areTicks reports whether n numbers from one on are ticks; n is not below 0, and the length of a list at most, so that no sum is too great for an int.
func areTicks(from, n int) bool { return n == 0 || isTick(from) && isTick(from+n-1) }
