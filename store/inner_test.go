package store

import (
	"math/rand"
	"strconv"
	"strings"
	"testing"
	"unsafe"

	"noria/api"
)

// checkPile holds the heap against its rules: nobody stands behind one that is idle for less long, each stands where its key says, and spare room keeps nothing.
func checkPile(t *testing.T, p *pile) {
	t.Helper()
	if len(p.places) != p.Len() {
		t.Fatalf("%d places of %d", len(p.places), p.Len())
	}
	for i, e := range p.entries {
		if place, is := p.places[e.key]; place != i || !is || !p.has(e.key) {
			t.Fatalf("%v stands at %d, not %d, %v", e.key, i, place, is)
		}
		if i > 0 && e.before(p.entries[(i-1)/2]) {
			t.Fatalf("%v stands behind %v", e, p.entries[(i-1)/2])
		}
	}
	for _, e := range p.entries[p.Len():cap(p.entries)] {
		if e != (entry{}) {
			t.Fatalf("%v is kept", e)
		}
	}
}

// firstOf is, by going through all, what first is to find.
func firstOf(p *pile, meant func(k api.Key) bool) (best entry, found bool) {
	for _, e := range p.entries {
		if meant(e.key) && (!found || e.before(best)) {
			best, found = e, true
		}
	}
	return best, found
}

// The heap keeps to its rules, whatever is put there, and taken from any place; the first of some is found wherever it stands.
func TestPile(t *testing.T) {
	r := rand.New(rand.NewSource(1))
	for range 300 {
		p := newPile()
		for range 100 {
			k := api.Key{Type: 1 + r.Intn(2), Name: strconv.Itoa(r.Intn(20))}
			switch since := uint64(r.Intn(10)); {
			case !p.has(k):
				p.put(entry{k, since})
			case r.Intn(3) > 0:
				p.drop(k)
			default:
				want, _ := firstOf(p, func(api.Key) bool { return true })
				got, ok := p.take(func(x uint64) bool { return x <= since })
				if ok != (want.since <= since) || ok && got != want.key || !ok && got != (api.Key{}) {
					t.Fatalf("%v, %v; want %v by %d", got, ok, want, since)
				}
			}
			checkPile(t, p)
			some := map[api.Key]bool{}
			for _, e := range p.entries {
				some[e.key] = r.Intn(4) == 0
			}
			meant := func(k api.Key) bool { return some[k] }
			want, is := firstOf(p, meant)
			if got, ok := p.first(meant); got != want || ok != is {
				t.Fatalf("%v, %v; want %v, %v", got, ok, want, is)
			}
		}
	}
}

// P12.2: what is idle longest is told by the times, and of one time by Order.
func TestBefore(t *testing.T) {
	at := func(kind int, name string, since uint64) entry { return entry{api.Key{Type: kind, Name: name}, since} }
	for _, x := range []struct{ first, then entry }{
		{at(5, "z", 1), at(1, "a", 2)}, {at(1, "b", 2), at(2, "a", 2)}, {at(2, "a", 2), at(2, "b", 2)}, {at(1, "a", 1<<63), at(1, "a", 1<<63+1)}, {at(1, "a", 0), at(1, "a", 1<<64-1)},
	} {
		if !x.first.before(x.then) || x.then.before(x.first) || x.first.before(x.first) {
			t.Errorf("%v, %v", x.first, x.then)
		}
	}
}

// Nothing stays of a key that nobody watches any more, nor of one that is not kept.
func TestNothingStays(t *testing.T) {
	s := New(2, 0)
	for i := range 50 {
		k := api.Key{Type: 1, Name: strconv.Itoa(i)}
		s.Watch(k, 0)
		s.Watch(k, 2)
		s.Watch(k, -2)
		s.Put(api.Resource{Key: k, Seq: 1}, uint64(i))
		if i%7 == 0 {
			s.Sweep(uint64(i))
		}
		if i%10 == 0 {
			s.Cut(k)
		}
		checkQueues(t, s)
		if len(s.watched) != 0 || s.Len() > 2 {
			t.Fatalf("%d are watched, %d are kept", len(s.watched), s.Len())
		}
	}
}

// checkQueues holds both queues against their rules: all that is kept, and nothing else, stands in one of them.
func checkQueues(t *testing.T, s *Store) {
	t.Helper()
	idle, busy := s.idle.(*pile), s.busy.(*pile)
	checkPile(t, idle)
	checkPile(t, busy)
	if idle.Len()+busy.Len() != s.Len() {
		t.Fatalf("%d are idle, and %d are not, of %d", idle.Len(), busy.Len(), s.Len())
	}
	for k := range s.things {
		if idle.has(k) == busy.has(k) {
			t.Fatalf("%v stands in both, or none", k)
		}
	}
}

// All that is kept stands in one queue, after a Sweep in the one where it belongs; of what is not idle the Order alone counts.
func TestQueues(t *testing.T) {
	r := rand.New(rand.NewSource(2))
	for range 200 {
		s := New(1+r.Intn(10), uint64(r.Intn(5)))
		for now := range uint64(100) {
			k := api.Key{Type: 1, Name: strconv.Itoa(r.Intn(15))}
			switch r.Intn(8) {
			case 0, 1, 2:
				s.Put(api.Resource{Key: k, Seq: now + 1}, now)
			case 3, 4:
				s.Watch(k, r.Intn(3)-1)
			case 5:
				s.Cut(k)
			case 6:
				s.Watch(api.Key{Type: 1, Name: star}, r.Intn(3)-1)
			case 7:
				s.Sweep(now)
				for k := range s.things {
					if s.idle.has(k) == (s.Wanted(k) > 0) {
						t.Fatalf("%v is wanted by %d", k, s.Wanted(k))
					}
				}
			}
			checkQueues(t, s)
			for _, e := range s.busy.(*pile).entries {
				if e.since != 0 {
					t.Fatalf("%v is busy", e)
				}
			}
		}
	}
}

// P3: of a key that is watched no text is kept that was handed in, the first time or later.
func TestWatchedTexts(t *testing.T) {
	text := strings.Repeat("name", 10)
	s := New(1, 0)
	for range 3 {
		s.Watch(api.Key{Type: 1, Name: text[4:8]}, 1)
	}
	for k, n := range s.watched {
		if unsafe.StringData(k.Name) == unsafe.StringData(text[4:8]) || n != 3 {
			t.Errorf("%v is watched by %d", k, n)
		}
	}
}
