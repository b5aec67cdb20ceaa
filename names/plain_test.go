package names_test

import (
	"math/rand"
	"regexp"
	"slices"
	"sort"
	"strings"
	"testing"

	"noria/api"
	"noria/names"
)

var plainName = regexp.MustCompile(`\A[a-z0-9./-]{1,64}\z`)

// isName tells of each of someNames whether it is one.
var isName = func() map[string]bool {
	m := map[string]bool{}
	for _, x := range someNames {
		m[x] = plainName.MatchString(x)
	}
	return m
}()

// plainSet is a Set, letter for letter: * is in it as itself.
type plainSet map[string]bool

func plainOf(l texts) plainSet {
	p := plainSet{}
	for _, x := range l {
		if x == "*" || isName[x] {
			p[x] = true
		}
	}
	return p
}

func (p plainSet) has(name string) bool {
	return isName[name] && (p["*"] || p[name])
}

func (p plainSet) with(q plainSet) plainSet {
	out := plainSet{}
	for _, x := range []plainSet{p, q} {
		for name := range x {
			out[name] = true
		}
	}
	return out
}

func (p plainSet) without(q plainSet) plainSet {
	out := plainSet{}
	for name := range p {
		if !q[name] {
			out[name] = true
		}
	}
	return out
}

// list is what is in it, rising: * comes first, as its byte is below those of names.
func (p plainSet) list() texts {
	var out texts
	for name := range p {
		out = append(out, name)
	}
	sort.Strings(out)
	return out
}

// wantPlain holds a Set against the plain one, and against its promise: names, rising, each once.
func wantPlain(t *testing.T, what string, got names.Set, want plainSet) {
	t.Helper()
	if l := got.List(); !slices.Equal(l, want.list()) || got.All != want["*"] || !slices.Equal(got.Names, want.without(plainSet{"*": true}).list()) {
		t.Fatalf("%s = %v, List %v, want %v", what, got, l, want.list())
	}
	if got.Empty() != (len(want) == 0) {
		t.Fatalf("%s: %v.Empty() = %v", what, got, got.Empty())
	}
}

var someNames = texts{"a", "b", "c", "aa", "ab", "a/b", "-", ".", "0", "10", "9", long, "*", "*", "*", "", "A", "a ", "**", long + "z", "\xff"}

func someTexts(r *rand.Rand) texts {
	var l texts
	for range r.Intn(1 + r.Intn(8)) {
		l = append(l, someNames[r.Intn(len(someNames))])
	}
	return l
}

// shuffled is l in another order, some of it twice.
func shuffled(r *rand.Rand, l texts) texts {
	var out texts
	for _, i := range r.Perm(len(l)) {
		out = append(out, l[i], l[r.Intn(i+1)])
	}
	return out
}

// P9.1, P9.3: held against a plain one, whatever comes.
func TestPlainly(t *testing.T) {
	r := rand.New(rand.NewSource(1))
	tally := map[string]int{}
	for range 20000 {
		x, y, z := someTexts(r), someTexts(r), someTexts(r)
		if r.Intn(4) == 0 {
			y = shuffled(r, x)
		}
		a, b, c := names.Of(x), names.Of(y), names.Of(z)
		p, q, s := plainOf(x), plainOf(y), plainOf(z)
		wantPlain(t, "Of", a, p)
		wantPlain(t, "Add", a.Add(y), p.with(q))
		wantPlain(t, "Drop", a.Drop(y), p.without(q))
		wantPlain(t, "Less", names.Less(a, b), p.without(q))
		union := names.Union(a, b, c)
		wantPlain(t, "Union", union, p.with(q).with(s))
		same := slices.Equal(p.list(), q.list())
		if names.Same(a, b) != same {
			t.Fatalf("Same(%v, %v) = %v", a, b, !same)
		}
		count(tally, "same", same && len(p) > 0)
		count(tally, "all", p["*"] && !q["*"])
		for _, name := range someNames {
			has := p.has(name)
			if a.Has(name) != has || union.Has(name) != (has || q.has(name) || s.has(name)) {
				t.Fatalf("%v.Has(%q) = %v; of the union %v", a, name, a.Has(name), union.Has(name))
			}
			count(tally, "has", has)
			count(tally, "has not", !has)
		}
	}
	for what, n := range tally {
		if n < 500 {
			t.Errorf("%s: %d times", what, n)
		}
	}
}

func count(tally map[string]int, what string, holds bool) {
	if _, there := tally[what]; !there {
		tally[what] = 0
	}
	if holds {
		tally[what]++
	}
}

// P9.1: what is more and less, from one Set to another, leads from the one to the other.
func TestMoreAndLess(t *testing.T) {
	r := rand.New(rand.NewSource(2))
	for range 20000 {
		a, b := names.Of(someTexts(r)), names.Of(someTexts(r))
		more, less := names.Less(b, a), names.Less(a, b)
		if got := a.Add(more.List()).Drop(less.List()); !names.Same(got, b) || !equal(got, b) {
			t.Fatalf("from %v, with %v, without %v: %v, want %v", a, more, less, got, b)
		}
		if got := names.Less(names.Union(a, b), less); !equal(got, b) {
			t.Fatalf("%v and %v without %v: %v", a, b, less, got)
		}
	}
}

// P9.2: Pick held against a plain one.
func TestPickPlainly(t *testing.T) {
	r := rand.New(rand.NewSource(3))
	picked := 0
	for range 20000 {
		x := someTexts(r)
		p := plainOf(x)
		var l, want []api.Resource
		for i, name := range someTexts(r) {
			l = append(l, of(r.Intn(7), name, uint64(i)))
			if p.has(name) {
				want = append(want, l[i])
			}
		}
		if got := names.Pick(names.Of(x), l); !slices.Equal(got, want) {
			t.Fatalf("Pick(%s, %v) = %v, want %v", strings.Join(x, ", "), l, got, want)
		}
		picked += len(want)
	}
	if picked < 5000 {
		t.Errorf("%d were picked", picked)
	}
}
