package store

import (
	"noria/api"
	"noria/check"
)

// Put keeps r, which is to be newer than what is kept of its key; where there is no room, something that nobody wants goes for it.
func (s *Store) Put(r api.Resource, now uint64) api.Errno {
	if !check.Right(r) {
		return api.ErrArg
	}
	old, kept := s.things[r.Key]
	switch {
	case kept && old.Seq >= r.Seq:
		return api.ErrStale
	case !kept && !s.makeRoom(now):
		return api.ErrFull
	}
	// The older version goes with the time from which it was idle.
	s.Cut(r.Key)
	r = own(r)
	s.things[r.Key] = r
	s.enter(r.Key, now)
	return api.OK
}

// Cut takes away what is kept of k; false, if nothing is.
func (s *Store) Cut(k api.Key) bool {
	_, kept := s.things[k]
	delete(s.things, k)
	s.leave(k)
	return kept
}

// makeRoom tells whether there is room for one thing more, for which another one goes, if it must.
func (s *Store) makeRoom(now uint64) bool {
	if s.Len() < s.room {
		return true
	}
	k, ok := s.longest(now)
	return ok && s.Cut(k)
}

// longest is, of what nobody wants, what is idle longest; false, if all is wanted. What is not idle yet counts as idle since now.
func (s *Store) longest(now uint64) (api.Key, bool) {
	unwanted := func(k api.Key) bool { return s.Wanted(k) == 0 }
	best, found := s.idle.first(unwanted)
	if e, ok := s.busy.first(unwanted); ok {
		e.since = now
		if !found || e.before(best) {
			best, found = e, true
		}
	}
	return best.key, found
}

// enter puts k, which is kept, into the queue where it belongs: it is idle from now on, if nobody wants it.
func (s *Store) enter(k api.Key, now uint64) {
	if s.Wanted(k) > 0 {
		s.busy.put(entry{key: k})
		return
	}
	s.idle.put(entry{k, now})
}

// leave takes k out of the queue where it stands.
func (s *Store) leave(k api.Key) {
	s.idle.drop(k)
	s.busy.drop(k)
}
