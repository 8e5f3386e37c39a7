package named_test

import (
	"testing"

	"barrage/api"
	"barrage/named"
)

// thing is an element with a name, and the error of its rest.
type thing struct {
	name string
	rest api.Errno
}

func TestEach(t *testing.T) {
	for i, c := range []struct {
		l  []thing
		at int
		e  api.Errno
	}{
		{nil, 0, api.OK},
		{[]thing{{"a", api.OK}, {"b", api.OK}, {"a-b", api.OK}}, 0, api.OK},
		{[]thing{{"a", api.OK}, {"b", api.ErrArg}}, 1, api.ErrArg},
		{[]thing{{"a", api.OK}, {"", api.ErrArg}}, 1, api.ErrForm},
		{[]thing{{"a", api.OK}, {"b", api.OK}, {"a", api.ErrArg}}, 2, api.ErrTwice},
		// The first element with an error decides.
		{[]thing{{"a", api.OK}, {"b", api.ErrRange}, {"a", api.OK}, {"", api.OK}}, 1, api.ErrRange},
		{[]thing{{"", api.OK}, {"", api.OK}}, 0, api.ErrForm},
		{[]thing{{"a", api.OK}, {"a", api.OK}, {"", api.OK}}, 1, api.ErrTwice},
	} {
		look := named.Each(c.l, func(x thing) string { return x.name }, func(x thing) api.Errno { return x.rest })
		if at, e := look(); at != c.at || e != c.e {
			t.Errorf("%d: Each = %d, %d, want %d, %d", i, at, e, c.at, c.e)
		}
	}
}
