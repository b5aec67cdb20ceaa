package resource

import (
	"noria/api"
	"noria/check"
)

// hasKey tells of a resource whether it is of that key.
func hasKey(k api.Key) func(api.Resource) bool {
	return func(r api.Resource) bool { return r.Key == k }
}

// isBehind tells of a resource whether it stands behind that key.
func isBehind(k api.Key) func(api.Resource) bool {
	return func(r api.Resource) bool { return check.Order(r.Key, k) > 0 }
}

// without is those of l, in order, that are not to go.
func without(l []api.Resource, goes func(api.Resource) bool) []api.Resource {
	var out []api.Resource
	for _, r := range l {
		if !goes(r) {
			out = append(out, r)
		}
	}
	return out
}

// newest is of each key in l the newest, of these the first, at the place where its key comes first.
func newest(l []api.Resource) []api.Resource {
	var out []api.Resource
	places := map[api.Key]int{}
	for _, r := range l {
		at, there := places[r.Key]
		switch {
		case !there:
			places[r.Key] = len(out)
			out = append(out, r)
		case Newer(r, out[at]):
			out[at] = r
		}
	}
	return out
}
