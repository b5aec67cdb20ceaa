package merge

import (
	"maps"
	"slices"
	"strings"

	"noria/names"
)

// tally is how many name each name, at least one; * is in it as itself.
type tally map[string]int

// turned is a tally of its own where one who wanted that wants these instead.
func (t tally) turned(that, these names.Set) tally {
	out := tally{}
	maps.Copy(out, t)
	for _, name := range these.List() {
		out[name]++
	}
	for _, name := range that.List() {
		out[name]--
		if out[name] == 0 {
			delete(out, name)
		}
	}
	return out
}

// set is what is named in t.
func (t tally) set() names.Set {
	var l []string
	for name := range t {
		l = append(l, name)
	}
	return own(names.Of(l))
}

// own is s with a list and texts of its own, so that what is kept shares none with what is handed in, or told.
func own(s names.Set) names.Set {
	s.Names = slices.Clone(s.Names)
	for i, name := range s.Names {
		s.Names[i] = strings.Clone(name)
	}
	return s
}
