// Package named has what the layers share to look at elements that have names, no two the same.
package named

import (
	"slices"

	"barrage/api"
	"barrage/check"
	"barrage/tide"
)

// Each looks at elements one after the other: at the name of each, whether one before it has the name, and then at the rest of it.
func Each[T any](l []T, name func(T) string, restError func(T) api.Errno) check.Look {
	return check.Each(len(l), func(i int) api.Errno {
		own := name(l[i])
		switch {
		case !tide.Name(own):
			return api.ErrForm
		case slices.ContainsFunc(l[:i], func(o T) bool { return name(o) == own }):
			return api.ErrTwice
		}
		return restError(l[i])
	})
}
