package merge_test

import (
	"math/rand"
	"regexp"
	"slices"
	"strconv"
	"testing"

	"noria/api"
	"noria/merge"
	"noria/names"
)

// wish is that an id wants a name, or *, of a type.
type wish struct {
	id, kind int
	name     string
}

// plainMerge is the chapter's: all wishes, one by one.
type plainMerge map[wish]bool

var plainName = regexp.MustCompile(`\A[a-z0-9./-]{1,64}\z`)

// list is the names of those wishes that are meant, * among them, rising, each once: * is below all names.
func (p plainMerge) list(meant func(w wish) bool) texts {
	var l texts
	for w := range p {
		if meant(w) && !slices.Contains(l, w.name) {
			l = append(l, w.name)
		}
	}
	slices.Sort(l)
	return l
}

func (p plainMerge) union(kind int) texts {
	return p.list(func(w wish) bool { return w.kind == kind })
}

func (p plainMerge) want(id, kind int) texts {
	return p.list(func(w wish) bool { return w.kind == kind && w.id == id })
}

// has tells whether that id wants that name.
func (p plainMerge) has(id, kind int, name string) bool {
	return plainName.MatchString(name) && (p[wish{id, kind, name}] || p[wish{id, kind, "*"}])
}

// without is those of a that are not in b.
func without(a, b texts) texts {
	var l texts
	for _, x := range a {
		if !slices.Contains(b, x) {
			l = append(l, x)
		}
	}
	return l
}

func (p plainMerge) set(id, kind int, want texts) (more, less texts, e api.Errno) {
	if id < 1 || id > 32 || kind < 1 || kind > 5 {
		return nil, nil, api.ErrArg
	}
	if len(want) > 64 {
		return nil, nil, api.ErrFull
	}
	before, old := p.union(kind), p.want(id, kind)
	p.turn(id, kind, old, false)
	p.turn(id, kind, want, true)
	after := p.union(kind)
	if len(after) > 64 {
		p.turn(id, kind, want, false)
		p.turn(id, kind, old, true)
		return nil, nil, api.ErrFull
	}
	return without(after, before), without(before, after), api.OK
}

func (p plainMerge) turn(id, kind int, l texts, on bool) {
	for _, name := range l {
		if on && (name == "*" || plainName.MatchString(name)) {
			p[wish{id, kind, name}] = true
		} else {
			delete(p, wish{id, kind, name})
		}
	}
}

func (p plainMerge) drop(id int) api.Errno {
	e := api.ErrNone
	for w := range p {
		if w.id == id {
			delete(p, w)
			e = api.OK
		}
	}
	return e
}

func (p plainMerge) keys(kind int) texts {
	var l texts
	for _, name := range p.union(kind) {
		n := 0
		for id := 1; id <= 32; id++ {
			if p[wish{id, kind, name}] {
				n++
			}
		}
		l = append(l, name+" "+strconv.Itoa(n))
	}
	return l
}

func (p plainMerge) who(kind int, name string) []int {
	var l []int
	for id := 1; id <= 32; id++ {
		if p.has(id, kind, name) {
			l = append(l, id)
		}
	}
	return l
}

// some is what a run of calls takes its arguments from: so many ids, and names.
type some struct {
	r          *rand.Rand
	ids, names int
}

func (x *some) id() int {
	if x.r.Intn(40) == 0 {
		return noIDs[x.r.Intn(len(noIDs))]
	}
	return 1 + x.r.Intn(x.ids)
}

func (x *some) kind() int {
	if x.r.Intn(40) == 0 {
		return noKinds[x.r.Intn(len(noKinds))]
	}
	return 1 + x.r.Intn(2)
}

func (x *some) name() string {
	switch x.r.Intn(40) {
	case 0:
		return noNames[x.r.Intn(len(noNames))]
	case 1:
		return "*"
	}
	return "n" + strconv.Itoa(x.r.Intn(x.names))
}

// want is a Set, mostly as it is to be, or one that was written down by hand.
func (x *some) want() names.Set {
	var l texts
	for range x.r.Intn(1 + x.r.Intn(x.names)) {
		l = append(l, x.name())
	}
	if x.r.Intn(4) == 0 {
		return names.Set{All: x.r.Intn(10) == 0, Names: l}
	}
	return names.Of(l)
}

// step does one thing to both, and tells what it was.
func (x *some) step(t *testing.T, m *merge.Merge, p plainMerge) string {
	t.Helper()
	words := map[api.Errno]string{api.OK: "ok", api.ErrArg: "arg", api.ErrFull: "full", api.ErrNone: "none"}
	if x.r.Intn(20) == 0 {
		id := x.id()
		got, want := m.Drop(id), p.drop(id)
		if got != want {
			t.Fatalf("Drop(%d) = %d, want %d", id, got, want)
		}
		return "drop " + words[got]
	}
	id, kind, want := x.id(), x.kind(), x.want()
	more, less, got := m.Set(id, kind, want)
	wantMore, wantLess, errno := p.set(id, kind, want.List())
	if got != errno || !equal(more, names.Of(wantMore)) || !equal(less, names.Of(wantLess)) {
		t.Fatalf("Set(%d, %d, %v) = %v, %v, %d, want %v, %v, %d", id, kind, want, more, less, got, wantMore, wantLess, errno)
	}
	switch {
	case more.All:
		return "more of all"
	case less.All:
		return "less of all"
	}
	return "set " + words[got]
}

// same holds what both tell against each other.
func (x *some) same(t *testing.T, m *merge.Merge, p plainMerge) {
	t.Helper()
	for kind := 0; kind <= 3; kind++ {
		wantKeys(t, m, kind, p.keys(kind)...)
		union := names.Of(p.union(kind))
		wantSet(t, "Union", m.Union(kind), union)
		if union.All {
			union.Names = nil
		}
		wantSet(t, "Lean", m.Lean(kind), union)
		for id := 0; id <= 33; id++ {
			wantSet(t, "Want", m.Want(id, kind), names.Of(p.want(id, kind)))
		}
		for range 3 {
			name := x.name()
			wantWho(t, m, kind, name, p.who(kind, name)...)
		}
	}
	if t.Failed() {
		t.FailNow()
	}
}

// P14.1, P14.2: held against a plain one, call by call: few names, and as many as there is room for, by few and by all.
func TestPlainly(t *testing.T) {
	r := rand.New(rand.NewSource(1))
	for _, c := range []struct{ rounds, steps, ids, names, every int }{
		{300, 60, 3, 4, 1},
		{10, 300, 5, 100, 10},
		{3, 1000, 32, 80, 30},
	} {
		tally := map[string]int{}
		for range c.rounds {
			x := &some{r, c.ids, c.names}
			m, p := merge.New(), plainMerge{}
			for i := range c.steps {
				tally[x.step(t, m, p)]++
				if i%c.every == 0 {
					x.same(t, m, p)
				}
			}
			x.same(t, m, p)
		}
		for _, what := range []string{"set ok", "set arg", "set full", "more of all", "less of all", "drop ok", "drop none"} {
			if tally[what] < 3 && (what != "set full" || c.names > 64) {
				t.Errorf("%q came %d times of %v", what, tally[what], c)
			}
		}
	}
}

// P14.3: the Union has just what one of them has, by name or as one of all, and Who are those; more and less lead from one Union to the next.
func TestUnionIsOfThem(t *testing.T) {
	x := &some{rand.New(rand.NewSource(2)), 6, 30}
	m := merge.New()
	has, hasNot := 0, 0
	for range 3000 {
		id, kind := x.id(), x.kind()
		before := m.Union(kind)
		more, less, _ := m.Set(id, kind, x.want())
		union := m.Union(kind)
		if got := before.Add(more.List()).Drop(less.List()); !equal(got, union) {
			t.Fatalf("%v, with %v, without %v, is %v, not %v", before, more, less, got, union)
		}
		for _, name := range append(texts{x.name(), x.name(), "q", long}, noNames...) {
			var who []int
			for id := -1; id <= 34; id++ {
				if m.Want(id, kind).Has(name) {
					who = append(who, id)
				}
			}
			wantWho(t, m, kind, name, who...)
			if union.Has(name) != (len(who) > 0) || m.Lean(kind).Has(name) != union.Has(name) {
				t.Fatalf("%v has %q, or has not: %v", union, name, who)
			}
			if union.Has(name) {
				has++
			} else {
				hasNot++
			}
		}
		if x.r.Intn(50) == 0 {
			m.Drop(1 + x.r.Intn(6))
		}
		if t.Failed() {
			t.FailNow()
		}
	}
	if has < 1000 || hasNot < 1000 {
		t.Errorf("it had %d times, %d times not", has, hasNot)
	}
}
