package store_test

import (
	"math"
	"slices"
	"strconv"
	"strings"
	"testing"

	"noria/api"
	"noria/store"
)

type (
	key  = api.Key
	keys = []api.Key
	res  = api.Resource
	list = []api.Resource
)

const (
	mostSeq      = 1 << 62
	mostWatchers = 1<<31 - 1
	never        = math.MaxUint64
)

// noKeys are none; some are one in the low bits of their Type alone.
var noKeys = keys{
	{}, {Type: 1}, {Type: 0, Name: "a"}, {Type: 6, Name: "a"}, {Type: -1, Name: "a"}, {Type: 1<<8 + 1, Name: "a"}, {Type: 1<<32 + 1, Name: "a"},
	{Type: math.MaxInt, Name: "a"}, {Type: math.MinInt, Name: "a"}, {Type: math.MinInt + 1, Name: "a"}, {Type: 0, Name: "*"}, {Type: 6, Name: "*"},
	{Type: 1, Name: "A"}, {Type: 1, Name: "**"}, {Type: 1, Name: "a*"}, {Type: 1, Name: "a "}, {Type: 1, Name: "\xff"}, {Type: 1, Name: "a\x00"},
	{Type: 1, Name: strings.Repeat("a", 65)},
}

// at is a key.
func at(kind int, name string) key { return key{Type: kind, Name: name} }

// a is the key of type 1 of that name.
func a(name string) key { return at(1, name) }

// of is a version of k.
func of(k key, seq uint64) res {
	return res{Key: k, Seq: seq, Body: k.Name + strconv.FormatUint(seq, 10)}
}

// numbered are n keys of type 1, rising.
func numbered(n int) keys {
	var l keys
	for i := range n {
		l = append(l, a("n"+strconv.Itoa(10000+i)))
	}
	return l
}

// put puts what is kept then.
func put(t *testing.T, s *store.Store, now uint64, l ...res) {
	t.Helper()
	for _, r := range l {
		if errno := s.Put(r, now); errno != api.OK {
			t.Fatalf("Put(%v, %d) = %d", r, now, errno)
		}
	}
}

// putKeys puts the first version of each of these.
func putKeys(t *testing.T, s *store.Store, now uint64, l ...key) {
	t.Helper()
	for _, k := range l {
		put(t, s, now, of(k, 1))
	}
}

// refused puts what is not kept, and holds the store against itself.
func refused(t *testing.T, s *store.Store, r res, now uint64, want api.Errno) {
	t.Helper()
	before := kept(s)
	if errno := s.Put(r, now); errno != want {
		t.Errorf("Put(%.80v, %d) = %d, want %d", r, now, errno, want)
	}
	if after := kept(s); !slices.Equal(after, before) {
		t.Errorf("Put(%.80v, %d): %v is kept, want %v", r, now, after, before)
	}
}

func watch(t *testing.T, s *store.Store, k key, by int) {
	t.Helper()
	if errno := s.Watch(k, by); errno != api.OK {
		t.Fatalf("Watch(%v, %d) = %d", k, by, errno)
	}
}

func wanted(t *testing.T, s *store.Store, k key, want int) {
	t.Helper()
	if got := s.Wanted(k); got != want {
		t.Errorf("Wanted(%.80v) = %d, want %d", k, got, want)
	}
}

// sweep sweeps, and holds what goes against what is to go.
func sweep(t *testing.T, s *store.Store, now uint64, want ...key) {
	t.Helper()
	if got := s.Sweep(now); !slices.Equal(got, want) {
		t.Errorf("Sweep(%d) = %v, want %v", now, got, want)
	}
}

// kept is all that is kept.
func kept(s *store.Store) list {
	var l list
	for kind := 1; kind <= api.Types; kind++ {
		l = append(l, s.List(kind)...)
	}
	return l
}

// keeps holds what is kept, in all ways in which it is told, against the keys that are to be.
func keeps(t *testing.T, s *store.Store, want ...key) {
	t.Helper()
	l := kept(s)
	var got keys
	for _, r := range l {
		got = append(got, r.Key)
		if x, ok := s.Get(r.Key); x != r || !ok {
			t.Errorf("Get(%v) = %v, %v, want %v", r.Key, x, ok, r)
		}
	}
	if !slices.Equal(got, want) || s.Len() != len(want) {
		t.Errorf("%v are kept, %d in all, want %v", got, s.Len(), want)
	}
}

// nothing asks for what is not kept.
func nothing(t *testing.T, s *store.Store, k key) {
	t.Helper()
	if r, ok := s.Get(k); ok || r != (res{}) {
		t.Errorf("Get(%.80v) = %v, %v", k, r, ok)
	}
	if s.Cut(k) {
		t.Errorf("Cut(%.80v) = true", k)
	}
}

// The chapter's examples; P12.1: a new store keeps nothing, and nobody watches.
func TestNew(t *testing.T) {
	s := store.New(5, 5)
	for _, k := range append(keys{a("a"), at(5, "b"), a("*")}, noKeys...) {
		nothing(t, s, k)
		wanted(t, s, k, 0)
	}
	keeps(t, s)
	sweep(t, s, 0)
	sweep(t, s, never)
}

// P12.1: there is room for 1 to 4096 things, less or more counts as the nearer one.
func TestRoom(t *testing.T) {
	for room, want := range map[int]int{
		math.MinInt: 1, math.MinInt + 5: 1, -4096: 1, -1: 1, 0: 1, 1: 1, 2: 2, 3: 3, 100: 100,
		4095: 4095, 4096: 4096, 4097: 4096, 5000: 4096, 1<<32 + 1: 4096, math.MaxInt: 4096,
	} {
		s := store.New(room, 0)
		watch(t, s, a("*"), 1)
		l := numbered(want + 1)
		putKeys(t, s, 0, l[:want]...)
		refused(t, s, of(l[want], 1), 0, api.ErrFull)
		keeps(t, s, l[:want]...)
	}
}

// P12.1: so many watch a key; of * those alone that watch all, of the others of its type those too.
func TestWatch(t *testing.T) {
	s := store.New(1, 0)
	for _, x := range []struct {
		k               key
		by              int
		a, b, all, twoA int
	}{
		{a("a"), 1, 1, 0, 0, 0},
		{a("a"), 1, 2, 0, 0, 0},
		{at(2, "a"), 7, 2, 0, 0, 7},
		{a("*"), 3, 5, 3, 3, 7},
		{a("b"), 0, 5, 3, 3, 7},
		{a("b"), 10, 5, 13, 3, 7},
		{a("a"), -1, 4, 13, 3, 7},
		{a("*"), -2, 2, 11, 1, 7},
		{a("a"), -1, 1, 11, 1, 7},
		{a("a"), 0, 1, 11, 1, 7},
		{at(2, "*"), 1, 1, 11, 1, 8},
		{a("*"), -1, 0, 10, 0, 8},
		{a("b"), -10, 0, 0, 0, 8},
		{at(2, "a"), -7, 0, 0, 0, 1},
		{at(2, "*"), -1, 0, 0, 0, 0},
	} {
		watch(t, s, x.k, x.by)
		wanted(t, s, a("a"), x.a)
		wanted(t, s, a("b"), x.b)
		wanted(t, s, a("c"), x.all)
		wanted(t, s, a("*"), x.all)
		wanted(t, s, at(2, "a"), x.twoA)
		wanted(t, s, at(3, "a"), 0)
	}
}

// P12.1: nobody watches what is no key, and nobody wants it, whoever watches all.
func TestWatchNoKey(t *testing.T) {
	s := store.New(1, 0)
	for kind := 1; kind <= api.Types; kind++ {
		watch(t, s, at(kind, "*"), 5)
	}
	for _, k := range noKeys {
		for _, by := range []int{0, 1, -1, mostWatchers, math.MaxInt, math.MinInt} {
			if errno := s.Watch(k, by); errno != api.ErrArg {
				t.Errorf("Watch(%.80v, %d) = %d", k, by, errno)
			}
			wanted(t, s, k, 0)
		}
	}
}

// P12.1, P6: as many as watch are 0 to 2^31 - 1; else nobody comes, and nobody goes.
func TestWatchLimits(t *testing.T) {
	for _, k := range (keys{a("a"), a("*"), at(5, "a")}) {
		s := store.New(1, 0)
		for _, n := range []int{0, 1, 5, mostWatchers - 1, mostWatchers} {
			watch(t, s, k, n-s.Wanted(k))
			wanted(t, s, k, n)
			for _, by := range []int{-n - 1, mostWatchers - n + 1, math.MinInt, math.MinInt + 1, math.MinInt + n, math.MaxInt, math.MaxInt - n, math.MaxInt - n + 1, -1 << 32, 1 << 32, 1<<32 - n, -mostWatchers - 1} {
				if errno := s.Watch(k, by); errno != api.ErrArg {
					t.Errorf("%d watch: Watch(%v, %d) = %d", n, k, by, errno)
				}
				wanted(t, s, k, n)
			}
		}
		watch(t, s, k, -mostWatchers)
		wanted(t, s, k, 0)
	}
}

// P12.1: those who watch a key, and those who watch all, are counted each by themselves, and together.
func TestWantedTogether(t *testing.T) {
	s := store.New(1, 0)
	watch(t, s, a("a"), mostWatchers)
	watch(t, s, a("*"), mostWatchers)
	wanted(t, s, a("a"), 2*mostWatchers)
	wanted(t, s, a("*"), mostWatchers)
	watch(t, s, a("a"), -mostWatchers)
	wanted(t, s, a("a"), mostWatchers)
	if errno := s.Watch(a("a"), -1); errno != api.ErrArg {
		t.Errorf("%d: one who watches all does not watch a alone", errno)
	}
}

// P12.2: List is of a type, rising by name, byte by byte; Len is of all.
func TestList(t *testing.T) {
	s := store.New(100, 0)
	rising := []string{"-", ".", "/", "0", "10", "9", "a", "a/b", "aa", "b", strings.Repeat("z", 64)}
	for kind := 1; kind <= api.Types; kind++ {
		for i := range rising {
			putKeys(t, s, 0, at(kind, rising[i*4%len(rising)]))
		}
	}
	put(t, s, 0, res{Key: a("c"), Seq: 9, Gone: true}, res{Key: a("d"), Seq: 9})
	for kind := 2; kind <= api.Types; kind++ {
		var got []string
		for _, r := range s.List(kind) {
			got = append(got, r.Name)
			if r != of(at(kind, r.Name), 1) {
				t.Errorf("List(%d) has %v", kind, r)
			}
		}
		if !slices.Equal(got, rising) {
			t.Errorf("List(%d) = %v", kind, got)
		}
	}
	if n := len(s.List(1)); n != len(rising)+2 || s.Len() != 5*len(rising)+2 {
		t.Errorf("%d of type 1, %d in all", n, s.Len())
	}
	for _, k := range noKeys {
		if l := s.List(k.Type); (k.Type < 1 || k.Type > 5) && len(l) > 0 {
			t.Errorf("List(%d) = %v", k.Type, l)
		}
	}
}

// P12.2: Cut takes away what is kept of that key, and nothing else; once.
func TestCut(t *testing.T) {
	s := store.New(4, 10)
	putKeys(t, s, 0, a("a"), a("b"), at(2, "a"))
	for _, k := range append(keys{a("*"), at(3, "a"), a("c")}, noKeys...) {
		nothing(t, s, k)
	}
	keeps(t, s, a("a"), a("b"), at(2, "a"))
	if !s.Cut(a("a")) {
		t.Error("nothing is cut")
	}
	nothing(t, s, a("a"))
	keeps(t, s, a("b"), at(2, "a"))
	watch(t, s, a("b"), 1)
	if !s.Cut(a("b")) {
		t.Error("what is wanted is not cut")
	}
	wanted(t, s, a("b"), 1)
	// What is put anew is no older one's, nor idle since then.
	putKeys(t, s, 5, a("a"), a("b"))
	sweep(t, s, 14, at(2, "a"))
	sweep(t, s, 15, a("a"))
	keeps(t, s, a("b"))
}

// P12.2: with Reset nothing is kept, of older versions nothing is known, and who watches stays.
func TestReset(t *testing.T) {
	s := store.New(2, 10)
	watch(t, s, a("a"), 3)
	watch(t, s, at(2, "*"), 4)
	put(t, s, 0, of(a("a"), 5), of(a("b"), 5))
	s.Reset()
	keeps(t, s)
	nothing(t, s, a("a"))
	nothing(t, s, a("b"))
	wanted(t, s, a("a"), 3)
	wanted(t, s, at(2, "b"), 4)
	sweep(t, s, 100)
	put(t, s, 101, of(a("a"), 1), of(a("b"), 1))
	refused(t, s, of(a("b"), 1), 101, api.ErrStale)
	sweep(t, s, 110)
	sweep(t, s, 111, a("b"))
	putKeys(t, s, 111, at(2, "b"))
	refused(t, s, of(a("c"), 1), 111, api.ErrFull)
	s.Reset()
	s.Reset()
	keeps(t, s)
}
