package store

import (
	"slices"

	"noria/api"
	"noria/check"
)

// Sweep looks at what is idle now, and takes away what has been so for grace ticks: their keys, rising by Order.
func (s *Store) Sweep(now uint64) []api.Key {
	s.lookAround(now)
	over := func(since uint64) bool { return since <= now && now-since >= s.grace }
	var gone []api.Key
	for k, ok := s.idle.take(over); ok; k, ok = s.idle.take(over) {
		delete(s.things, k)
		gone = append(gone, k)
	}
	slices.SortFunc(gone, check.Order)
	return gone
}

// lookAround lets be idle what nobody wants, from now on, if it was not, and that alone.
func (s *Store) lookAround(now uint64) {
	for k := range s.things {
		// What is idle, and wanted, or neither, stands in the wrong queue.
		if s.idle.has(k) == (s.Wanted(k) > 0) {
			s.leave(k)
			s.enter(k, now)
		}
	}
}
