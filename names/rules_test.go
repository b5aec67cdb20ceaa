package names_test

import (
	"runtime"
	"slices"
	"strconv"
	"strings"
	"testing"

	"noria/api"
	"noria/names"
)

// withRoom is a list with others behind it in its array; told are both.
func withRoom(l ...string) (list, array texts) {
	array = append(slices.Clone(l), "behind", "x")
	return array[:len(l)], array
}

// lists are the calls that answer a list, or a Set, of two lists, as they answer to Sets of these.
func lists() map[string]func(x, y texts) texts {
	set := func(l texts) names.Set { return names.Set{All: slices.Contains(l, "*"), Names: l} }
	return map[string]func(x, y texts) texts{
		"Of":         func(x, y texts) texts { return names.Of(y).Names },
		"List":       func(x, y texts) texts { return just(x...).List() },
		"List of *":  func(x, y texts) texts { return all(x...).List() },
		"Add":        func(x, y texts) texts { return set(x).Add(y).Names },
		"Add none":   func(x, y texts) texts { return set(x).Add(nil).Names },
		"Drop":       func(x, y texts) texts { return set(x).Drop(y).Names },
		"Drop none":  func(x, y texts) texts { return set(x).Drop(nil).Names },
		"Union":      func(x, y texts) texts { return names.Union(set(x), set(y)).Names },
		"Union of 1": func(x, y texts) texts { return names.Union(set(x)).Names },
		"Less":       func(x, y texts) texts { return names.Less(set(x), set(y)).Names },
		"Less none":  func(x, y texts) texts { return names.Less(set(x), set(nil)).Names },
	}
}

// P3: what is handed in stays, with what stands behind it in its array, and that counts for nothing; what is told is new, with its spare room.
func TestListsStayAndAreNew(t *testing.T) {
	for what, call := range lists() {
		for _, in := range [][2]texts{{{"a", "b", "c"}, {"d", "b", "d", "*", "A"}}, {{"c", "a", "c"}, {"c"}}, {{"a"}, nil}, {nil, {"b", "a"}}} {
			x, xs := withRoom(in[0]...)
			y, ys := withRoom(in[1]...)
			one, two := call(x, y), call(x, y)
			want := slices.Clone(one)
			if !slices.Equal(x, in[0]) || !slices.Equal(y, in[1]) || xs[len(x)] != "behind" || ys[len(y)] != "behind" {
				t.Errorf("%s wrote into %v, %v", what, xs, ys)
			}
			if slices.Contains(one, "behind") || slices.Contains(one, "x") {
				t.Errorf("%s took what stands behind: %v", what, one)
			}
			scribble(one)
			if !slices.Equal(two, want) || !slices.Equal(x, in[0]) || !slices.Equal(y, in[1]) || xs[len(x)] != "behind" || ys[len(y)] != "behind" {
				t.Errorf("%s shares: %v, %v, %v", what, two, xs, ys)
			}
			scribble(xs)
			scribble(ys)
			if !slices.Equal(two, want) {
				t.Errorf("%s keeps what was handed in: %v", what, two)
			}
		}
	}
}

func scribble(l texts) {
	l = l[:cap(l)]
	for i := range l {
		l[i] = "scribbled"
	}
}

// P3: Same, Has and Empty write nothing; the list of Sets that is handed to Union stays.
func TestSetsStay(t *testing.T) {
	x, xs := withRoom("c", "a", "c")
	y, ys := withRoom("a", "c")
	before, behind := slices.Clone(xs), slices.Clone(ys)
	l := []names.Set{just(x...), all(y...)}
	if names.Same(l[0], l[1]) || !names.Same(l[0], just(y...)) || !l[0].Has("c") || l[0].Has("b") || l[0].Empty() {
		t.Error("another answer")
	}
	names.Union(l...)
	names.Pick(l[0], []api.Resource{of(1, "a", 1)})
	if !slices.Equal(xs, before) || !slices.Equal(ys, behind) || !equal(l[0], just(x...)) || !equal(l[1], all(y...)) {
		t.Errorf("%v became %v, %v became %v", before, xs, behind, ys)
	}
}

// P3: what Pick was given stays, and what it tells is new.
func TestPickIsNew(t *testing.T) {
	for _, s := range []names.Set{just("a", "b"), all(), just("a")} {
		array := []api.Resource{of(1, "a", 1), of(1, "b", 2), of(1, "a", 3)}
		before := slices.Clone(array)
		one, two := names.Pick(s, array[:2]), names.Pick(s, array[:2])
		want := slices.Clone(two)
		one = one[:cap(one)]
		for i := range one {
			one[i] = of(9, "scribbled", 9)
		}
		if !slices.Equal(array, before) || !slices.Equal(two, want) {
			t.Errorf("%v: %v became %v; %v became %v", s, before, array, want, two)
		}
	}
}

// P1: of Sets that were written down by hand there are answers too, whose names rise, each once.
func TestSetsByHand(t *testing.T) {
	odd := []names.Set{{}, just(""), just("*"), all("*", "*"), just("b", "a", "b"), just(noNames...), all(noNames...), just(strings.Repeat("x", 1<<20))}
	for _, a := range odd {
		a.List()
		a.Empty()
		for _, b := range odd {
			for what, s := range map[string]names.Set{"Union": names.Union(a, b), "Less": names.Less(a, b), "Add": a.Add(b.List()), "Drop": a.Drop(b.List())} {
				rising := slices.Compact(slices.Sorted(slices.Values(s.Names)))
				if !slices.Equal(s.Names, rising) {
					t.Errorf("%s: %.80q don't rise", what, s.Names)
				}
			}
			for _, name := range append(texts{"a", "b", "c"}, noNames...) {
				if names.Union(a, b).Has(name) != (a.Has(name) || b.Has(name)) {
					t.Errorf("the union of %.80q and %.80q has %q, or has not", a.List(), b.List(), name)
				}
			}
			if names.Same(a, b) != names.Same(b, a) || !names.Same(a, a) {
				t.Errorf("Same(%.80q, %.80q)", a.List(), b.List())
			}
		}
	}
}

// many are many names, far from sorted, each twice.
func many(n int) texts {
	var l texts
	for i := range 2 * n {
		l = append(l, strconv.Itoa(i*7919%n))
	}
	return l
}

// Many names cost room as they grow, not as their square, and what was there twice keeps none.
func TestManyNamesCostLittle(t *testing.T) {
	var before, after runtime.MemStats
	runtime.ReadMemStats(&before)
	const n = 50000
	l := many(n)
	a := names.Of(l)
	if len(a.Names) != n || cap(a.Names) > n+n/8+1000 {
		t.Fatalf("%d names, room for %d", len(a.Names), cap(a.Names))
	}
	var resources []api.Resource
	for i, name := range l {
		resources = append(resources, of(1, name, uint64(i)))
	}
	if got := names.Pick(a, resources); len(got) != 2*n {
		t.Errorf("%d were picked", len(got))
	}
	if got := names.Less(a, a); !got.Empty() {
		t.Errorf("%d are left", len(got.Names))
	}
	if got := names.Union(a, a, names.Of(nil)); !names.Same(got, a) || !names.Same(a.Add(l), a) || !a.Drop(l).Empty() {
		t.Error("another answer")
	}
	runtime.ReadMemStats(&after)
	if room := after.TotalAlloc - before.TotalAlloc; room > 1<<28 {
		t.Errorf("%d bytes were asked for", room)
	}
}

// P4: the same is answered to the same, not by the order of a map; calls at one time don't meet one another.
func TestSameAnswers(t *testing.T) {
	l := many(300)
	a, b := names.Of(l), names.Of(l[:100])
	left := names.Less(a, b)
	done := make(chan bool)
	for range 8 {
		go func() {
			same := true
			for range 50 {
				same = same && equal(names.Of(l), a) && equal(names.Less(a, b), left) && equal(names.Union(b, left), a) && equal(a.Drop(l[:100]), left) && a.Has("299") && !b.Has("x")
			}
			done <- same
		}()
	}
	for range 8 {
		if !<-done {
			t.Error("another answer")
		}
	}
}
