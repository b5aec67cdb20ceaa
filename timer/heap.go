package timer

import "container/heap"

// entry is a timer that was set.
type entry struct {
	id   string
	at   uint64
	turn uint64 // how many were set ahead of it, so that those of one time keep their order
}

// before tells whether e falls due ahead of o.
func (e entry) before(o entry) bool {
	if e.at != o.at {
		return e.at < o.at
	}
	return e.turn < o.turn
}

// pile is a heap of timers: the one that falls due first stands at place 0.
type pile struct {
	entries []entry
	places  map[string]int // where the timer of each id stands
}

// Len is how many there are.
func (p *pile) Len() int { return len(p.entries) }

// Less is for container/heap.
func (p *pile) Less(i, j int) bool { return p.entries[i].before(p.entries[j]) }

// Swap is for container/heap.
func (p *pile) Swap(i, j int) {
	l := p.entries
	l[i], l[j] = l[j], l[i]
	p.places[l[i].id], p.places[l[j].id] = i, j
}

// Push is for container/heap.
func (p *pile) Push(x any) {
	e := x.(entry)
	p.places[e.id] = len(p.entries)
	p.entries = append(p.entries, e)
}

// Pop is for container/heap.
func (p *pile) Pop() any {
	last := len(p.entries) - 1
	e := p.entries[last]
	// Cleared, so that the spare room does not keep the id.
	p.entries[last] = entry{}
	p.entries = p.entries[:last]
	return e
}

// put puts e among the others; there is none of its id.
func (p *pile) put(e entry) { heap.Push(p, e) }

// find is where the timer of that id stands; false, if there is none.
func (p *pile) find(id string) (int, bool) {
	place, ok := p.places[id]
	return place, ok
}

// look is the one that stands there.
func (p *pile) look(place int) entry { return p.entries[place] }

// take takes out the one that stands there.
func (p *pile) take(place int) entry {
	e := heap.Remove(p, place).(entry)
	delete(p.places, e.id)
	return e
}
