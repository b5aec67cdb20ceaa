package timer

import (
	"math/rand"
	"strconv"
	"testing"
)

// checkPile holds the heap against its rules: nobody stands behind one that falls due later, each stands where its id says, and spare room keeps nothing.
func checkPile(t *testing.T, p *pile) {
	t.Helper()
	if len(p.places) != len(p.entries) {
		t.Fatalf("%d places of %d", len(p.places), len(p.entries))
	}
	for i, e := range p.entries {
		if place, ok := p.find(e.id); place != i || !ok || p.look(i) != e {
			t.Fatalf("%q stands at %d, not %d, %v", e.id, i, place, ok)
		}
		if i > 0 && e.before(p.entries[(i-1)/2]) {
			t.Fatalf("%v stands behind %v", e, p.entries[(i-1)/2])
		}
	}
	for _, e := range p.entries[len(p.entries):cap(p.entries)] {
		if e != (entry{}) {
			t.Fatalf("%v is kept", e)
		}
	}
}

// The map tells where each stands in the heap, whatever is put there, and taken from any place.
func TestPile(t *testing.T) {
	r := rand.New(rand.NewSource(1))
	for round := range 300 {
		x := New()
		p := x.queue.(*pile)
		for i := range 100 {
			switch id := strconv.Itoa(r.Intn(40)); {
			case r.Intn(3) > 0:
				x.Set(id, uint64(r.Intn(10)))
			case x.Len() > 0 && round%2 == 0:
				place := r.Intn(x.Len())
				want := p.look(place)
				if got := p.take(place); got != want {
					t.Fatal(got, want)
				}
			default:
				x.Due(uint64(i % 4))
			}
			checkPile(t, p)
		}
	}
}

// P7.3: what falls due first is told by the times, and of one time by when it was set, not by the ids.
func TestBefore(t *testing.T) {
	a, b, c := entry{"z", 1, 9}, entry{"y", 2, 3}, entry{"a", 2, 4}
	for _, x := range []struct{ first, then entry }{{a, b}, {a, c}, {b, c}, {entry{"a", 1 << 63, 0}, entry{"a", 1<<63 + 1, 0}}} {
		if !x.first.before(x.then) || x.then.before(x.first) || x.first.before(x.first) {
			t.Errorf("%v, %v", x.first, x.then)
		}
	}
}
