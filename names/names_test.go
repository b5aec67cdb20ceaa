package names_test

import (
	"slices"
	"strings"
	"testing"

	"noria/api"
	"noria/names"
)

type texts = []string

// long is the longest name.
var long = strings.Repeat("z", 64)

// noNames are texts that are no name.
var noNames = texts{"", "*", "**", "a*", "A", "a b", "ä", "\x00", "_", "a\n", long + "z"}

// all wants all, and these names.
func all(l ...string) names.Set { return names.Set{All: true, Names: l} }

// just wants these names.
func just(l ...string) names.Set { return names.Set{Names: l} }

func equal(a, b names.Set) bool { return a.All == b.All && slices.Equal(a.Names, b.Names) }

func wantSet(t *testing.T, what string, got, want names.Set) {
	t.Helper()
	if !equal(got, want) {
		t.Errorf("%s = %v, want %v", what, got, want)
	}
}

// P9.1: Of is all, if * is among them, and the names, rising, each once; what is no name counts for nothing.
func TestOf(t *testing.T) {
	for _, c := range []struct {
		l    texts
		want names.Set
	}{
		{nil, just()},
		{texts{}, just()},
		{texts{"a"}, just("a")},
		{texts{"b", "a", "b", "*"}, all("a", "b")},
		{texts{"*"}, all()},
		{texts{"*", "*"}, all()},
		{texts{"a", "*"}, all("a")},
		{texts{"*", "a"}, all("a")},
		{texts{"c", "b", "a"}, just("a", "b", "c")},
		{texts{"a", "a", "a"}, just("a")},
		{texts{"b", "aa", "a", "ab", "a/", "a.", "a-", "a0"}, just("a", "a-", "a.", "a/", "a0", "aa", "ab", "b")},
		{texts{"10", "9", "1"}, just("1", "10", "9")},
		{texts{long, long + "z", "a"}, just("a", long)},
		{noNames, all()},
		{append(texts{"x", "**"}, "a*"), just("x")},
		{texts{"", "A", "a"}, just("a")},
	} {
		wantSet(t, "Of("+strings.Join(c.l, ", ")+")", names.Of(c.l), c.want)
	}
}

// P9.1: of more names than a request may have, too, Of is all of them.
func TestOfMany(t *testing.T) {
	var l, want texts
	for b := byte('z'); b >= 'a'; b-- {
		for i := range 10 {
			l = append(l, strings.Repeat(string(b), 10-i), string(b))
		}
	}
	for b := byte('a'); b <= 'z'; b++ {
		for i := range 10 {
			want = append(want, strings.Repeat(string(b), i+1))
		}
	}
	wantSet(t, "Of", names.Of(l), just(want...))
}

// P9.1: Has is of names alone: of those that are wanted by name, and of any, if all is.
func TestHas(t *testing.T) {
	for _, c := range []struct {
		s    names.Set
		name string
		want bool
	}{
		{just(), "a", false},
		{just("a", "b"), "a", true},
		{just("a", "b"), "b", true},
		{just("a", "b"), "ab", false},
		{just("ab"), "a", false},
		{just("a"), "A", false},
		{all(), "a", true},
		{all(), long, true},
		{all("a"), "a", true},
		{all("a"), "b", true},
		{just("b", "a"), "a", true},
		{just("b", "a"), "b", true},
	} {
		if got := c.s.Has(c.name); got != c.want {
			t.Errorf("%v.Has(%q) = %v", c.s, c.name, got)
		}
	}
	for _, x := range noNames {
		for _, s := range []names.Set{just(), just("a"), all(), all("a"), names.Of(noNames), just(noNames...), all(noNames...)} {
			if s.Has(x) {
				t.Errorf("%v.Has(%q)", s, x)
			}
		}
	}
}

// P9.1: Empty is who wants nothing.
func TestEmpty(t *testing.T) {
	for _, s := range []names.Set{{}, just(), {Names: texts{}}, names.Of(nil), names.Of(texts{"A", ""}), names.Union(), all("a").Drop(texts{"*", "a"})} {
		if !s.Empty() {
			t.Errorf("%v is not empty", s)
		}
	}
	for _, s := range []names.Set{all(), just("a"), all("a"), names.Of(texts{"*"}), just().Add(texts{"b"})} {
		if s.Empty() {
			t.Errorf("%v is empty", s)
		}
	}
}

// P9.1: List is *, if all is wanted, and the names; what is made of it is the Set again.
func TestList(t *testing.T) {
	for _, c := range []struct {
		s    names.Set
		want texts
	}{
		{just(), nil},
		{all(), texts{"*"}},
		{just("a", "b"), texts{"a", "b"}},
		{all("-", "a"), texts{"*", "-", "a"}},
	} {
		if got := c.s.List(); !slices.Equal(got, c.want) {
			t.Errorf("%v.List() = %v, want %v", c.s, got, c.want)
		}
		wantSet(t, "Of its List", names.Of(c.s.List()), c.s)
	}
}

// P9.1: Add is with what Of has.
func TestAdd(t *testing.T) {
	for _, c := range []struct {
		s    names.Set
		l    texts
		want names.Set
	}{
		{just(), nil, just()},
		{just("b"), nil, just("b")},
		{all("b"), nil, all("b")},
		{just("b"), texts{"c", "a", "c"}, just("a", "b", "c")},
		{just("b"), texts{"b"}, just("b")},
		{just("b"), texts{"*"}, all("b")},
		{all(), texts{"a"}, all("a")},
		{all("b"), texts{"*", "a"}, all("a", "b")},
		{just("b"), noNames, all("b")},
		{just("b"), texts{"", "A", long + "z"}, just("b")},
	} {
		wantSet(t, "Add("+strings.Join(c.l, ", ")+")", c.s.Add(c.l), c.want)
	}
}

// P9.1: Drop is without what Of has: without *, what that stood for is gone, but for the names.
func TestDrop(t *testing.T) {
	for _, c := range []struct {
		s    names.Set
		l    texts
		want names.Set
	}{
		{just(), nil, just()},
		{just(), texts{"a", "*"}, just()},
		{just("a", "b", "c"), nil, just("a", "b", "c")},
		{just("a", "b", "c"), texts{"b", "x", "b"}, just("a", "c")},
		{just("a", "b"), texts{"b", "a"}, just()},
		{just("a", "b"), texts{"*"}, just("a", "b")},
		{all("a", "b"), texts{"*"}, just("a", "b")},
		{all("a", "b"), texts{"a"}, all("b")},
		{all("a"), texts{"b"}, all("a")},
		{all(), texts{"b"}, all()},
		{all(), texts{"*"}, just()},
		{all("a", "b"), texts{"b", "*"}, just("a")},
		{all("a"), texts{"", "A", "a*"}, all("a")},
	} {
		wantSet(t, "Drop("+strings.Join(c.l, ", ")+")", c.s.Drop(c.l), c.want)
	}
}

// P9.1, P9.3: Union is what any wants: all, if one does, and the names of all.
func TestUnion(t *testing.T) {
	wantSet(t, "Union of none", names.Union(), just())
	for _, c := range []struct {
		l    []names.Set
		want names.Set
	}{
		{[]names.Set{just()}, just()},
		{[]names.Set{just("a")}, just("a")},
		{[]names.Set{all("a")}, all("a")},
		{[]names.Set{just(), just(), all()}, all()},
		{[]names.Set{just("b", "d"), just("a", "c", "d"), just("a")}, just("a", "b", "c", "d")},
		{[]names.Set{all(), just("a")}, all("a")},
		{[]names.Set{just("a"), all("b"), just("c")}, all("a", "b", "c")},
		{[]names.Set{all("b"), all("a", "b")}, all("a", "b")},
	} {
		wantSet(t, "Union", names.Union(c.l...), c.want)
		slices.Reverse(c.l)
		wantSet(t, "Union, from behind", names.Union(c.l...), c.want)
	}
}

// P9.1: Less is the names of the one that the other does not name, and all, if the one alone wants it.
func TestLess(t *testing.T) {
	for _, c := range []struct {
		a, b, want names.Set
	}{
		{just(), just(), just()},
		{just(), all("a"), just()},
		{just("a", "b"), just(), just("a", "b")},
		{just("a", "b", "c"), just("b", "d"), just("a", "c")},
		{just("a", "b"), just("a", "b"), just()},
		{just("a"), all(), just("a")},
		{just("a", "b"), all("a"), just("b")},
		{all("a"), just("a"), all()},
		{all("a"), just(), all("a")},
		{all("a", "b"), all("b"), just("a")},
		{all(), all(), just()},
		{all("a"), all("a"), just()},
	} {
		wantSet(t, "Less", names.Less(c.a, c.b), c.want)
	}
}

// P9.1: Same is by all, and by names: who wants all, and a name, does not want the same as who wants all.
func TestSame(t *testing.T) {
	l := []names.Set{just(), just("a"), just("b"), just("a", "b"), just("ab"), all(), all("a"), all("b"), all("a", "b"), just(long)}
	for i, a := range l {
		for j, b := range l {
			if got := names.Same(a, b); got != (i == j) {
				t.Errorf("Same(%v, %v) = %v", a, b, got)
			}
		}
	}
	for _, c := range [][2]names.Set{
		{{}, {Names: texts{}}},
		{names.Of(texts{"b", "a", "*", "A"}), all("a", "b")},
		{just("a", "b"), just("b", "a", "b")},
		{all("a", "b", "c").Drop(texts{"b"}), all("c", "a")},
	} {
		if !names.Same(c[0], c[1]) || !names.Same(c[1], c[0]) {
			t.Errorf("%v and %v are not the same", c[0], c[1])
		}
	}
}

// of is a resource of that type and name; seq tells which of them it is.
func of(kind int, name string, seq uint64) api.Resource {
	return api.Resource{Key: api.Key{Type: kind, Name: name}, Seq: seq}
}

// P9.2: Pick is those whose name is wanted, in order, each as often as it is there, be they right or not.
func TestPick(t *testing.T) {
	l := []api.Resource{of(3, "b", 1), of(1, "a", 2), of(1, "c", 3), of(1, "*", 4), of(1, "", 5), of(2, "b", 6), of(0, "a", 0), of(1, "A", 7), of(9, "b", 1), {Key: api.Key{Type: 5, Name: long}, Seq: 8, Gone: true}, of(1, long+"z", 9)}
	for _, c := range []struct {
		s    names.Set
		want []int
	}{
		{just(), nil},
		{just("a"), []int{1, 6}},
		{just("b"), []int{0, 5, 8}},
		{just("a", "b"), []int{0, 1, 5, 6, 8}},
		{just("x", long), []int{9}},
		{all(), []int{0, 1, 2, 5, 6, 8, 9}},
		{all("a"), []int{0, 1, 2, 5, 6, 8, 9}},
		{just("b", "a", "b"), []int{0, 1, 5, 6, 8}},
		{just(noNames...), nil},
		{just("x"), nil},
	} {
		var want []api.Resource
		for _, i := range c.want {
			want = append(want, l[i])
		}
		if got := names.Pick(c.s, l); !slices.Equal(got, want) {
			t.Errorf("Pick(%v) = %v, want %v", c.s, got, want)
		}
		if got := names.Pick(c.s, nil); len(got) > 0 {
			t.Errorf("Pick(%v, none) = %v", c.s, got)
		}
	}
	slices.Reverse(l)
	if got := names.Pick(all(), l); len(got) != 7 || got[0].Name != long || got[6] != l[10] {
		t.Errorf("from behind: %v", got)
	}
}
