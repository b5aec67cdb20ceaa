package store

import (
	"container/heap"

	"noria/api"
	"noria/check"
)

// queue is what a Store asks of what is idle, and of what is not.
type queue interface {
	has(k api.Key) bool
	put(e entry)
	drop(k api.Key)
	take(over func(since uint64) bool) (api.Key, bool)
	first(meant func(k api.Key) bool) (entry, bool)
}

// entry is a key, and since when it is idle; of what is not 0.
type entry struct {
	key   api.Key
	since uint64
}

// before tells whether e is idle for longer than o; of the same time the keys tell.
func (e entry) before(o entry) bool {
	if e.since != o.since {
		return e.since < o.since
	}
	return check.Order(e.key, o.key) < 0
}

// pile is a heap of entries: what is idle longest stands at place 0.
type pile struct {
	entries []entry
	places  map[api.Key]int // where each stands
}

func newPile() *pile { return &pile{places: map[api.Key]int{}} }

// Len is how many there are.
func (p *pile) Len() int { return len(p.entries) }

// Less is for container/heap.
func (p *pile) Less(i, j int) bool { return p.entries[i].before(p.entries[j]) }

// Swap is for container/heap.
func (p *pile) Swap(i, j int) {
	l := p.entries
	l[i], l[j] = l[j], l[i]
	p.places[l[i].key], p.places[l[j].key] = i, j
}

// Push is for container/heap.
func (p *pile) Push(x any) {
	e := x.(entry)
	p.places[e.key] = len(p.entries)
	p.entries = append(p.entries, e)
}

// Pop is for container/heap.
func (p *pile) Pop() any {
	last := len(p.entries) - 1
	e := p.entries[last]
	// Cleared, so that the spare room does not keep the name.
	p.entries[last] = entry{}
	p.entries = p.entries[:last]
	delete(p.places, e.key)
	return e
}

// has tells whether k is there.
func (p *pile) has(k api.Key) bool {
	_, is := p.places[k]
	return is
}

// put puts e among the others; its key is none of theirs.
func (p *pile) put(e entry) { heap.Push(p, e) }

// drop takes k out, if it is there.
func (p *pile) drop(k api.Key) {
	if place, is := p.places[k]; is {
		heap.Remove(p, place)
	}
}

// take takes out the one that is idle longest, if that is over; false, if it is not, or if there is none.
func (p *pile) take(over func(since uint64) bool) (api.Key, bool) {
	if p.Len() == 0 || !over(p.entries[0].since) {
		return api.Key{}, false
	}
	return heap.Pop(p).(entry).key, true
}

// first is the one that is idle longest of those that are meant; false, if none is.
func (p *pile) first(meant func(k api.Key) bool) (entry, bool) {
	var best entry
	var found bool
	var look func(place int)
	look = func(place int) {
		// Those below a place in the heap are idle for less long than the one there.
		if place >= p.Len() || found && best.before(p.entries[place]) {
			return
		}
		if meant(p.entries[place].key) {
			best, found = p.entries[place], true
			return
		}
		look(2*place + 1)
		look(2*place + 2)
	}
	look(0)
	return best, found
}
