package server

import (
	"cmp"
	"slices"

	"noria/api"
	"noria/check"
	"noria/message"
	"noria/names"
)

// itself, ofHave and ofResource are the names by which things stand in lists.
func itself(name string) string { return name }

func ofHave(h message.Have) string { return h.Name }

func ofResource(r api.Resource) string { return r.Name }

// those are the things of l, in order, that are such.
func those[T any](l []T, are func(T) bool) []T {
	var out []T
	for _, x := range l {
		if are(x) {
			out = append(out, x)
		}
	}
	return out
}

// rising is what the lists have, rising by name, of a name the first alone.
func rising[T any](name func(T) string, lists ...[]T) []T {
	out := slices.Concat(lists...)
	slices.SortStableFunc(out, func(a, b T) int { return cmp.Compare(name(a), name(b)) })
	return slices.CompactFunc(out, func(a, b T) bool { return name(a) == name(b) })
}

// placeIn tells the place at which l has a name; -1, if it has it not. It goes through l once, however often it is asked.
func placeIn[T any](l []T, name func(T) string) func(string) int {
	places := map[string]int{}
	for i, x := range l {
		places[name(x)] = i
	}
	return func(name string) int {
		if i, is := places[name]; is {
			return i
		}
		return -1
	}
}

// hasOf is Has of s, for whom many names are asked of.
func hasOf(s names.Set) func(string) bool {
	named := placeIn(s.Names, itself)
	return func(name string) bool { return check.Name(name) && (s.All || named(name) >= 0) }
}
