package store_test

import (
	"math"
	"strings"
	"testing"

	"noria/api"
	"noria/store"
)

// P12.2: what is not Right is not put, whatever else is; what is Right is kept as it is.
func TestPutRight(t *testing.T) {
	s := store.New(1, 0)
	watch(t, s, a("*"), 1)
	body := strings.Repeat("\xff", api.MaxBody)
	full := func(k key) res { return res{Key: k, Seq: mostSeq, Body: body} }
	for _, k := range append(keys{a("*")}, noKeys...) {
		refused(t, s, of(k, 1), 0, api.ErrArg)
	}
	put(t, s, 0, of(a("a"), 9))
	for _, k := range append(keys{a("*")}, noKeys...) {
		refused(t, s, of(k, 9), 0, api.ErrArg)
	}
	for _, r := range []res{
		{Key: a("a")},
		{Key: a("a"), Seq: mostSeq + 1},
		{Key: a("a"), Seq: 1 << 63},
		{Key: a("a"), Seq: math.MaxUint64},
		{Key: a("a"), Seq: 10, Gone: true, Body: "x"},
		{Key: a("a"), Seq: 10, Body: body + "x"},
		{Key: a("a"), Seq: 9, Body: body + "x"},
		{Key: a("b"), Seq: 0},
		{Key: a("b"), Seq: 10, Gone: true, Body: "x"},
	} {
		refused(t, s, r, 0, api.ErrArg)
	}
	for _, r := range []res{{Key: a("a"), Seq: 10}, {Key: a("a"), Seq: 11, Gone: true}, {Key: a("a"), Seq: 12, Body: "\x00 no body of its type"}, full(a("a"))} {
		put(t, s, 0, r)
		if x, ok := s.Get(a("a")); x != r || !ok || s.Len() != 1 {
			t.Errorf("%v, %v, of %d; want %v", x, ok, s.Len(), r)
		}
	}
	for kind := 1; kind <= api.Types; kind++ {
		s := store.New(1, 0)
		for _, name := range []string{"a", "-", strings.Repeat("z", 64)} {
			r := full(at(kind, name))
			put(t, s, 0, r)
			if x, ok := s.Get(r.Key); x != r || !ok {
				t.Errorf("%v, %v; want %v", x, ok, r)
			}
			s.Reset()
		}
	}
}

// P12.2, P12.4: what is kept of a key only gets newer, wanted or not, whether there is room or not; one key says nothing of another.
func TestPutStale(t *testing.T) {
	for _, watched := range []bool{false, true} {
		for _, room := range []int{2, 3} {
			s := store.New(room, 0)
			if watched {
				watch(t, s, a("*"), 1)
			}
			put(t, s, 0, of(a("a"), 5), of(a("b"), 1))
			for _, seq := range []uint64{1, 4, 5} {
				refused(t, s, res{Key: a("a"), Seq: seq, Body: "another"}, 0, api.ErrStale)
				refused(t, s, res{Key: a("a"), Seq: seq, Gone: true}, 0, api.ErrStale)
			}
			put(t, s, 0, of(a("b"), 2), of(a("a"), 6), res{Key: a("a"), Seq: 8, Gone: true})
			refused(t, s, of(a("a"), 7), 0, api.ErrStale)
			refused(t, s, of(a("a"), 8), 0, api.ErrStale)
			put(t, s, 0, of(a("a"), mostSeq))
			refused(t, s, of(a("a"), mostSeq), never, api.ErrStale)
			keeps(t, s, a("a"), a("b"))
			s.Cut(a("a"))
			put(t, s, 0, of(a("a"), 1))
			keeps(t, s, a("a"), a("b"))
		}
	}
}

// P12.2, P12.4: where there is no room, and all is wanted, nothing more is kept; of what is kept newer ones are.
func TestPutFull(t *testing.T) {
	for _, watched := range []keys{{a("*"), at(2, "b")}, {a("a"), a("c"), at(2, "*")}} {
		s := store.New(3, 0)
		for _, k := range watched {
			watch(t, s, k, 1)
		}
		putKeys(t, s, 0, a("a"), a("c"), at(2, "b"))
		for _, k := range (keys{a("b"), at(2, "a"), at(3, "a")}) {
			refused(t, s, of(k, 9), 0, api.ErrFull)
			refused(t, s, of(k, 9), never, api.ErrFull)
		}
		put(t, s, 0, of(a("a"), 2), of(at(2, "b"), 2))
		sweep(t, s, never)
		refused(t, s, of(a("b"), 9), never, api.ErrFull)
		refused(t, s, of(a("c"), 1), never, api.ErrStale)
		keeps(t, s, a("a"), a("c"), at(2, "b"))
		s.Cut(a("a"))
		putKeys(t, s, 0, a("a"))
		watch(t, s, watched[0], -1)
		putKeys(t, s, 0, at(3, "a"))
		keeps(t, s, a("c"), at(2, "b"), at(3, "a"))
	}
}

// P12.2: what goes is what is idle longest, of the same time the first by Order; and no more than one.
func TestPutGoes(t *testing.T) {
	s := store.New(4, 0)
	putKeys(t, s, 7, at(2, "a"))
	putKeys(t, s, 3, at(1, "c"), at(1, "b"), at(3, "a"))
	for _, x := range []struct {
		put  key
		now  uint64
		kept keys
	}{
		{at(1, "d"), 5, keys{at(1, "c"), at(1, "d"), at(2, "a"), at(3, "a")}},
		{at(1, "e"), 0, keys{at(1, "d"), at(1, "e"), at(2, "a"), at(3, "a")}},
		{at(1, "f"), 9, keys{at(1, "d"), at(1, "f"), at(2, "a"), at(3, "a")}},
		{at(1, "g"), 9, keys{at(1, "d"), at(1, "f"), at(1, "g"), at(2, "a")}},
		{at(1, "h"), 9, keys{at(1, "f"), at(1, "g"), at(1, "h"), at(2, "a")}},
		{at(5, "a"), never, keys{at(1, "f"), at(1, "g"), at(1, "h"), at(5, "a")}},
		{at(1, "a"), 1, keys{at(1, "a"), at(1, "g"), at(1, "h"), at(5, "a")}},
	} {
		putKeys(t, s, x.now, x.put)
		keeps(t, s, x.kept...)
	}
}

// P12.2: nothing goes where there is room, nor for a newer one of a key that is kept.
func TestPutStays(t *testing.T) {
	s := store.New(2, 0)
	putKeys(t, s, 0, a("a"))
	putKeys(t, s, 9, a("b"))
	keeps(t, s, a("a"), a("b"))
	put(t, s, 9, of(a("b"), 2), of(a("a"), 2), of(a("a"), 3))
	keeps(t, s, a("a"), a("b"))
}

// P12.2: what is wanted does not go, though it was idle; what is not wanted any more goes.
func TestPutGoesOfTheUnwanted(t *testing.T) {
	s := store.New(3, 0)
	putKeys(t, s, 1, a("a"))
	putKeys(t, s, 2, a("b"))
	putKeys(t, s, 3, at(2, "a"))
	watch(t, s, a("*"), 1)
	putKeys(t, s, 4, a("d"))
	keeps(t, s, a("a"), a("b"), a("d"))
	refused(t, s, of(at(2, "e"), 1), 4, api.ErrFull)
	watch(t, s, a("a"), 1)
	watch(t, s, a("*"), -1)
	putKeys(t, s, 5, at(2, "e"))
	keeps(t, s, a("a"), a("d"), at(2, "e"))
	putKeys(t, s, 6, at(2, "f"))
	keeps(t, s, a("a"), a("d"), at(2, "f"))
	putKeys(t, s, 6, at(2, "g"))
	keeps(t, s, a("a"), at(2, "f"), at(2, "g"))
}

// P12.2: what was not idle yet counts as idle since now: behind what was idle ahead of that, ahead of what was idle later, and of the same time by Order.
func TestPutNotIdleYet(t *testing.T) {
	for _, x := range []struct {
		now  uint64
		goes string
	}{{0, "c"}, {4, "c"}, {5, "b"}, {6, "b"}, {never, "b"}} {
		s := store.New(4, 0)
		watch(t, s, a("*"), 1)
		putKeys(t, s, 9, a("c"), a("d"))
		watch(t, s, a("*"), -1)
		putKeys(t, s, 5, a("b"))
		putKeys(t, s, 8, a("e"))
		putKeys(t, s, x.now, at(2, "x"))
		if _, ok := s.Get(a(x.goes)); ok || s.Len() != 4 {
			t.Errorf("at %d: %v are kept", x.now, kept(s))
		}
	}
	s := store.New(2, 0)
	watch(t, s, a("a"), 1)
	putKeys(t, s, 9, a("a"))
	watch(t, s, a("a"), -1)
	putKeys(t, s, 5, a("b"))
	putKeys(t, s, 5, a("c"))
	keeps(t, s, a("b"), a("c"))
	// Having counted as idle makes nothing idle.
	s = store.New(2, 10)
	watch(t, s, a("*"), 1)
	putKeys(t, s, 0, a("a"), a("b"))
	watch(t, s, a("*"), -1)
	putKeys(t, s, 5, at(2, "c"))
	keeps(t, s, a("b"), at(2, "c"))
	sweep(t, s, 15, at(2, "c"))
	sweep(t, s, 24)
	sweep(t, s, 25, a("b"))
}

// P12.2: what nobody wants is idle from the Put on; a newer one anew.
func TestPutIsIdle(t *testing.T) {
	s := store.New(3, 10)
	put(t, s, 0, of(a("a"), 1), of(a("b"), 1))
	put(t, s, 5, of(a("a"), 2))
	refused(t, s, of(a("b"), 1), 5, api.ErrStale)
	sweep(t, s, 9)
	sweep(t, s, 10, a("b"))
	sweep(t, s, 14)
	put(t, s, 3, of(a("a"), 3))
	sweep(t, s, 12)
	sweep(t, s, 13, a("a"))
	keeps(t, s)
}

// P12.2: what is put while somebody wants it is not idle, though what it is newer than was.
func TestPutWantedIsNotIdle(t *testing.T) {
	s := store.New(3, 10)
	put(t, s, 0, of(a("a"), 1), of(a("b"), 1))
	watch(t, s, a("*"), 1)
	put(t, s, 5, of(a("a"), 2))
	watch(t, s, a("*"), -1)
	sweep(t, s, 12, a("b"))
	sweep(t, s, 21)
	sweep(t, s, 22, a("a"))
}
