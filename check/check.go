// Package check has what the layers share to look at their arguments: ranges, and which of several errors comes first.
package check

import "barrage/api"

// Look looks for an error, and returns the index at which it is, and the error.
type Look func() (at int, e api.Errno)

// First looks at one thing after the other until there is an error, and returns the number of this look (from 1 on) and what it found.
func First(looks ...Look) (number, at int, e api.Errno) {
	for i, look := range looks {
		if at, e := look(); e != api.OK {
			return i + 1, at, e
		}
	}
	return 0, 0, api.OK
}

// Must looks whether something holds.
func Must(ok bool, at int, e api.Errno) Look {
	return func() (int, api.Errno) {
		if ok {
			return 0, api.OK
		}
		return at, e
	}
}

// Each looks at n elements, the first of which that has an error decides.
func Each(n int, of func(i int) api.Errno) Look {
	return func() (int, api.Errno) {
		for i := range n {
			if e := of(i); e != api.OK {
				return i, e
			}
		}
		return 0, api.OK
	}
}

// In reports whether a number is from lo to hi.
func In(x, lo, hi int) bool { return lo <= x && x <= hi }

// IsLevel reports whether a number is a level.
func IsLevel(x int) bool { return In(x, api.MinLevel, api.MaxLevel) }

// IsTick reports whether a number is a tick.
func IsTick(x int) bool { return In(x, 0, api.MaxTick) }
