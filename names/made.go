package names

import (
	"slices"

	"noria/check"
)

// made is the Set of all, or not, and of those names of the lists that are taken.
func made(all bool, taken func(name string) bool, lists ...[]string) Set {
	var names []string
	for _, l := range lists {
		for _, name := range l {
			if taken(name) {
				names = append(names, name)
			}
		}
	}
	slices.Sort(names)
	// A copy, so that no room is kept for what a list had twice.
	return Set{All: all, Names: slices.Clone(slices.Compact(names))}
}

// every takes each name.
func every(string) bool { return true }

// among tells of a name whether it is one of l. It goes through l once, however often it is asked.
func among(l []string) func(name string) bool {
	names := map[string]struct{}{}
	for _, name := range l {
		names[name] = struct{}{}
	}
	return func(name string) bool {
		_, is := names[name]
		return is
	}
}

// except takes each name but those of l.
func except(l []string) func(name string) bool {
	is := among(l)
	return func(name string) bool { return !is(name) }
}

// asked is Has of s, for whom many names are asked of.
func asked(s Set) func(name string) bool {
	if s.All {
		return check.Name
	}
	is := among(s.Names)
	return func(name string) bool { return check.Name(name) && is(name) }
}
