package store_test

import (
	"cmp"
	"math/big"
	"math/rand"
	"regexp"
	"slices"
	"strings"
	"testing"

	"noria/api"
	"noria/store"
)

// plainThing is something that is kept by a plainStore.
type plainThing struct {
	r     res
	idle  bool
	since uint64
}

// plainStore is the chapter's: a list of what is kept, rising by Order, and one of who watches, each one by itself.
type plainStore struct {
	room   int
	grace  uint64
	things []plainThing
	watch  keys
}

var plainName = regexp.MustCompile(`\A[a-z0-9./-]{1,64}\z`)

func plainKey(k key) bool {
	return k.Type >= 1 && k.Type <= 5 && (k.Name == "*" || plainName.MatchString(k.Name))
}

func plainOrder(x, y key) int {
	return cmp.Or(x.Type-y.Type, strings.Compare(x.Name, y.Name))
}

func (p *plainStore) count(k key) (n int) {
	for _, w := range p.watch {
		if w == k {
			n++
		}
	}
	return n
}

func (p *plainStore) doWatch(k key, by int) api.Errno {
	if !plainKey(k) || p.count(k)+by < 0 {
		return api.ErrArg
	}
	for ; by > 0; by-- {
		p.watch = append(p.watch, k)
	}
	for ; by < 0; by++ {
		i := slices.Index(p.watch, k)
		p.watch = slices.Delete(p.watch, i, i+1)
	}
	return api.OK
}

func (p *plainStore) wanted(k key) int {
	if !plainKey(k) {
		return 0
	}
	n := p.count(k)
	if k.Name != "*" {
		n += p.count(key{Type: k.Type, Name: "*"})
	}
	return n
}

func (p *plainStore) place(k key) int {
	return slices.IndexFunc(p.things, func(x plainThing) bool { return x.r.Key == k })
}

func (p *plainStore) cut(k key) bool {
	i := p.place(k)
	if i >= 0 {
		p.things = slices.Delete(p.things, i, i+1)
	}
	return i >= 0
}

// goes is where the one stands that goes for another one.
func (p *plainStore) goes(now uint64) int {
	best, bestSince := -1, uint64(0)
	for i, x := range p.things {
		if p.wanted(x.r.Key) > 0 {
			continue
		}
		since := now
		if x.idle {
			since = x.since
		}
		if best < 0 || since < bestSince {
			best, bestSince = i, since
		}
	}
	return best
}

func (p *plainStore) put(r res, now uint64) api.Errno {
	right := plainKey(r.Key) && r.Name != "*" && len(r.Body) <= 1024 && (!r.Gone || r.Body == "") && r.Seq >= 1 && r.Seq <= 1<<62
	i := p.place(r.Key)
	switch {
	case !right:
		return api.ErrArg
	case i >= 0 && p.things[i].r.Seq >= r.Seq:
		return api.ErrStale
	case i < 0 && len(p.things) == p.room && p.goes(now) < 0:
		return api.ErrFull
	case i < 0 && len(p.things) == p.room:
		p.cut(p.things[p.goes(now)].r.Key)
	}
	p.cut(r.Key)
	x := plainThing{r: r}
	if p.wanted(r.Key) == 0 {
		x.idle, x.since = true, now
	}
	p.things = append(p.things, x)
	slices.SortFunc(p.things, func(x, y plainThing) int { return plainOrder(x.r.Key, y.r.Key) })
	return api.OK
}

// isOver tells whether what is idle since then has been so for long enough: by numbers that don't wrap.
func (p *plainStore) isOver(since, now uint64) bool {
	whole := func(n uint64) *big.Int { return new(big.Int).SetUint64(n) }
	ticks := new(big.Int).Sub(whole(now), whole(since))
	return ticks.Sign() >= 0 && ticks.Cmp(whole(p.grace)) >= 0
}

func (p *plainStore) sweep(now uint64) (gone keys) {
	var left []plainThing
	for _, x := range p.things {
		switch {
		case p.wanted(x.r.Key) > 0:
			x.idle, x.since = false, 0
		case !x.idle:
			x.idle, x.since = true, now
		}
		if x.idle && p.isOver(x.since, now) {
			gone = append(gone, x.r.Key)
		} else {
			left = append(left, x)
		}
	}
	p.things = left
	return gone
}

func (p *plainStore) list(kind int) (l list) {
	for _, x := range p.things {
		if x.r.Type == kind {
			l = append(l, x.r)
		}
	}
	return l
}

// someTime is any time: mostly a little after the last one, so that much meets, or near the ends, or before it.
func someTime(r *rand.Rand, last uint64) uint64 {
	switch r.Intn(30) {
	case 0:
		return never - uint64(r.Intn(3))
	case 1:
		return 1<<63 - uint64(r.Intn(2))
	case 2:
		return r.Uint64()
	case 3, 4:
		return uint64(r.Intn(50))
	}
	return last + uint64(r.Intn(3))
}

// someKey is one of a few, or, seldom, of all, or none.
func someKey(r *rand.Rand) key {
	if r.Intn(30) == 0 {
		return noKeys[r.Intn(len(noKeys))]
	}
	kind := 1 + r.Intn(3)
	if r.Intn(3) == 0 {
		return at(kind, "*")
	}
	return at(kind, string(rune('a'+r.Intn(6))))
}

func someRes(r *rand.Rand) res {
	k := someKey(r)
	for k.Name == "*" && r.Intn(10) > 0 {
		k = someKey(r)
	}
	x := of(k, uint64(r.Intn(12)))
	switch r.Intn(12) {
	case 0:
		x.Gone, x.Body = true, ""
	case 1:
		x.Gone = true
	case 2:
		x.Seq = mostSeq + uint64(r.Intn(2))
	}
	return x
}

// P12.1 to P12.4: held against a plain one, call by call.
func TestPlainly(t *testing.T) {
	r := rand.New(rand.NewSource(1))
	tally := map[string]int{}
	for range 3000 {
		p := &plainStore{room: 1 + r.Intn(10), grace: []uint64{0, 1, 2, 3, 5, 10, never}[r.Intn(7)]}
		s := store.New(p.room, p.grace)
		now := uint64(r.Intn(10))
		for range 60 {
			now = someTime(r, now)
			step(t, r, s, p, now, tally)
			same(t, s, p)
		}
	}
	for _, what := range []string{"put", "stale", "full", "goes", "watched", "fewer", "not watched", "cut", "not cut", "swept", "none swept"} {
		if tally[what] < 500 {
			t.Errorf("%q came %d times", what, tally[what])
		}
	}
}

// step does one thing to both.
func step(t *testing.T, r *rand.Rand, s *store.Store, p *plainStore, now uint64, tally map[string]int) {
	t.Helper()
	switch n := r.Intn(200); {
	case n < 90:
		x := someRes(r)
		before := slices.Clone(p.things)
		got, want := s.Put(x, now), p.put(x, now)
		if got != want {
			t.Fatalf("Put(%v, %d) = %d, want %d", x, now, got, want)
		}
		tally[map[api.Errno]string{api.OK: "put", api.ErrArg: "not right", api.ErrStale: "stale", api.ErrFull: "full"}[got]]++
		if got == api.OK && len(before) == len(p.things) && !slices.ContainsFunc(before, func(y plainThing) bool { return y.r.Key == x.Key }) {
			tally["goes"]++
		}
	case n < 150:
		k, by := someKey(r), []int{0, 1, 1, 1, 2, -1, -1, -1, -2, -3}[r.Intn(10)]
		got, want := s.Watch(k, by), p.doWatch(k, by)
		if got != want {
			t.Fatalf("Watch(%v, %d) = %d, want %d", k, by, got, want)
		}
		switch {
		case got != api.OK:
			tally["not watched"]++
		case by < 0:
			tally["fewer"]++
		default:
			tally["watched"]++
		}
	case n < 160:
		k := someKey(r)
		got, want := s.Cut(k), p.cut(k)
		if got != want {
			t.Fatalf("Cut(%v) = %v, want %v", k, got, want)
		}
		tally[map[bool]string{true: "cut", false: "not cut"}[got]]++
	case n < 199:
		got, want := s.Sweep(now), p.sweep(now)
		if !slices.Equal(got, want) {
			t.Fatalf("Sweep(%d) = %v, want %v", now, got, want)
		}
		tally[map[bool]string{true: "swept", false: "none swept"}[len(got) > 0]]++
	default:
		s.Reset()
		p.things = nil
	}
}

// same holds what both tell against each other.
func same(t *testing.T, s *store.Store, p *plainStore) {
	t.Helper()
	if s.Len() != len(p.things) {
		t.Fatalf("Len() = %d, want %d", s.Len(), len(p.things))
	}
	for kind := 0; kind <= api.Types+1; kind++ {
		if got, want := s.List(kind), p.list(kind); !slices.Equal(got, want) {
			t.Fatalf("List(%d) = %v, want %v", kind, got, want)
		}
		for _, name := range []string{"a", "b", "c", "d", "e", "f", "g", "*", "", "A"} {
			k := at(kind, name)
			if got, want := s.Wanted(k), p.wanted(k); got != want {
				t.Fatalf("Wanted(%v) = %d, want %d", k, got, want)
			}
			want := res{}
			i := p.place(k)
			if i >= 0 {
				want = p.things[i].r
			}
			if got, ok := s.Get(k); got != want || ok != (i >= 0) {
				t.Fatalf("Get(%v) = %v, %v, want %v", k, got, ok, want)
			}
		}
	}
}

// P12.4: what is kept of a key only gets newer while it is kept; what is wanted stays, whatever is put, and swept.
func TestNewerAndWantedStays(t *testing.T) {
	r := rand.New(rand.NewSource(2))
	for range 300 {
		s := store.New(1+r.Intn(12), uint64(r.Intn(4)))
		now := uint64(0)
		for range 200 {
			now = someTime(r, now)
			before := kept(s)
			switch r.Intn(4) {
			case 0, 1:
				s.Put(someRes(r), now)
			case 2:
				s.Watch(someKey(r), r.Intn(5)-2)
			case 3:
				s.Sweep(now)
			}
			for _, x := range before {
				y, ok := s.Get(x.Key)
				if !ok && s.Wanted(x.Key) > 0 {
					t.Fatalf("%v is wanted, and went", x)
				}
				if ok && y != x && y.Seq <= x.Seq {
					t.Fatalf("%v was kept, then %v", x, y)
				}
			}
		}
	}
}
