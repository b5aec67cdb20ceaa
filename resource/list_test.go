package resource_test

import (
	"math"
	"slices"
	"testing"

	"noria/api"
	"noria/resource"
)

type list = []api.Resource

// P4.2: by Seq alone, of all 64 bits (P6).
func TestNewer(t *testing.T) {
	rising := []uint64{0, 1, 2, 300, 1<<31 - 1, 1 << 31, 1 << 32, 1 << 62, 1<<63 - 1, 1 << 63, math.MaxUint64}
	for i, a := range rising {
		for j, b := range rising {
			for _, other := range (list{of(1, "a", b, ""), of(5, "b", b, "x"), gone(0, "", b)}) {
				if got := resource.Newer(of(1, "a", a, ""), other); got != (i > j) {
					t.Errorf("Newer(%d, %d) = %v", a, b, got)
				}
			}
		}
	}
}

// P4.2: by Order, of the same key the one with the greater Seq, of the same the first.
func TestSort(t *testing.T) {
	for _, c := range []struct{ l, want list }{
		{nil, nil},
		{list{}, nil},
		{list{of(1, "a", 1, "x")}, list{of(1, "a", 1, "x")}},
		{list{of(2, "a", 1, ""), of(1, "b", 2, ""), of(1, "a", 3, "")}, list{of(1, "a", 3, ""), of(1, "b", 2, ""), of(2, "a", 1, "")}},
		{list{of(1, "b", 1, ""), of(1, "aa", 1, ""), of(1, "a", 1, ""), of(1, "a/", 1, "")}, list{of(1, "a", 1, ""), of(1, "a/", 1, ""), of(1, "aa", 1, ""), of(1, "b", 1, "")}},

		{list{of(1, "a", 1, "x"), of(1, "a", 2, "y")}, list{of(1, "a", 2, "y")}},
		{list{of(1, "a", 2, "x"), of(1, "a", 1, "y")}, list{of(1, "a", 2, "x")}},
		{list{of(1, "a", 2, "x"), of(1, "a", 2, "y")}, list{of(1, "a", 2, "x")}},
		{list{of(1, "a", 2, "y"), of(1, "a", 2, "x")}, list{of(1, "a", 2, "y")}},
		{list{of(1, "a", 1, "x"), of(1, "a", 2, "y"), of(1, "a", 2, "z"), of(1, "a", 1, "x")}, list{of(1, "a", 2, "y")}},
		{list{of(1, "a", 5, "x"), gone(1, "a", 6), of(1, "a", 4, "y")}, list{gone(1, "a", 6)}},
		{list{gone(1, "a", 6), of(1, "a", 6, "x")}, list{gone(1, "a", 6)}},
		{list{of(1, "a", 6, "x"), gone(1, "a", 6)}, list{of(1, "a", 6, "x")}},
		{list{of(1, "b", 1, "x"), of(1, "a", 1, ""), of(1, "b", 3, "y"), of(1, "c", 9, ""), of(1, "b", 2, "z")}, list{of(1, "a", 1, ""), of(1, "b", 3, "y"), of(1, "c", 9, "")}},
		{list{of(2, "a", 1, ""), of(1, "a", 9, ""), of(2, "b", 5, "")}, list{of(1, "a", 9, ""), of(2, "a", 1, ""), of(2, "b", 5, "")}},

		// what is not right is sorted, too
		{list{{}, of(-1, "z", 0, ""), of(1, "*", math.MaxUint64, "x"), of(1, "\xff", 1, ""), of(1, "", 1, ""), of(math.MinInt, "", 1, ""), of(math.MaxInt, "", 1, "")},
			list{of(math.MinInt, "", 1, ""), of(-1, "z", 0, ""), {}, of(1, "", 1, ""), of(1, "*", math.MaxUint64, "x"), of(1, "\xff", 1, ""), of(math.MaxInt, "", 1, "")}},
		{list{of(1, "a", 0, "x"), of(1, "a", math.MaxUint64, "y"), of(1, "a", 1<<63, "z")}, list{of(1, "a", math.MaxUint64, "y")}},
	} {
		if got := resource.Sort(c.l); !slices.Equal(got, c.want) {
			t.Errorf("Sort(%v) = %v, want %v", c.l, got, c.want)
		}
	}
}

// P4.2: the first of that key, whatever its Seq.
func TestFind(t *testing.T) {
	l := list{of(2, "b", 1, "x"), of(1, "a", 1, "first"), gone(1, "b", 3), of(1, "a", 9, "second"), of(1, "*", 1, "all"), of(0, "", 0, "none")}
	for k, want := range map[api.Key]int{
		key(2, "b"): 0, key(1, "a"): 1, key(1, "b"): 2, key(1, "*"): 4, key(0, ""): 5,
		key(2, "a"): -1, key(1, "c"): -1, key(2, "*"): -1, key(1, ""): -1, key(-1, "a"): -1, key(math.MaxInt, "a"): -1, key(1, "aa"): -1, key(1<<32+1, "a"): -1,
	} {
		r, ok := resource.Find(l, k)
		if ok != (want >= 0) || ok && r != l[want] || !ok && r != (api.Resource{}) {
			t.Errorf("Find(%v) = %v, %v, want place %d", k, r, ok, want)
		}
		if r, ok := resource.Find(nil, k); r != (api.Resource{}) || ok {
			t.Errorf("Find(nothing, %v) = %v, %v", k, r, ok)
		}
	}
	if r, ok := resource.Find(list{}, api.Key{}); r != (api.Resource{}) || ok {
		t.Errorf("Find(nothing) = %v, %v", r, ok)
	}
}

// P4.2: r alone of its key, ahead of the first that is behind it by Order, wherever that stands.
func TestSet(t *testing.T) {
	a, b, c, d := of(1, "a", 1, "a"), of(1, "b", 1, "b"), of(1, "c", 1, "c"), of(2, "a", 1, "d")
	old, older := of(1, "b", 9, "old"), gone(1, "b", 7)
	for _, x := range []struct {
		l    list
		r    api.Resource
		want list
	}{
		{nil, b, list{b}},
		{list{}, b, list{b}},
		{list{a, c, d}, b, list{a, b, c, d}},
		{list{b, c, d}, a, list{a, b, c, d}},
		{list{a, b, c}, d, list{a, b, c, d}},
		{list{a, b, d}, c, list{a, b, c, d}},

		// those of its key go, newer ones too
		{list{old}, b, list{b}},
		{list{a, old, c}, b, list{a, b, c}},
		{list{old, old, older}, b, list{b}},
		{list{a, b, c}, old, list{a, old, c}},
		{list{a, b, c}, older, list{a, older, c}},
		{list{a, b, c}, b, list{a, b, c}},

		// of a list that is not sorted
		{list{c, a}, b, list{b, c, a}},
		{list{a, c, a}, b, list{a, b, c, a}},
		{list{d, c, a}, b, list{b, d, c, a}},
		{list{c, old, a}, b, list{b, c, a}},
		{list{a, c, older, c, old}, b, list{a, b, c, c}},
		{list{old, a}, b, list{a, b}},
		{list{old, a, c}, b, list{a, b, c}},
		{list{a, a}, b, list{a, a, b}},
		{list{b, a}, c, list{b, a, c}},

		// what is not right is set, too
		{list{a, d}, api.Resource{}, list{{}, a, d}},
		{list{a, d}, of(1, "*", 0, "x"), list{of(1, "*", 0, "x"), a, d}},
		{list{a, d}, of(math.MaxInt, "", 0, "x"), list{a, d, of(math.MaxInt, "", 0, "x")}},
		{list{a, d}, of(math.MinInt, "", 0, "x"), list{of(math.MinInt, "", 0, "x"), a, d}},
	} {
		got := resource.Set(x.l, x.r)
		if !slices.Equal(got, x.want) {
			t.Errorf("Set(%v, %v) = %v, want %v", x.l, x.r, got, x.want)
		}
		// P4.3: what was set is found.
		if r, ok := resource.Find(got, x.r.Key); r != x.r || !ok {
			t.Errorf("Find(%v, %v) = %v, %v", got, x.r.Key, r, ok)
		}
	}
}

// P4.2: all of that key go, and no other; the others stay in order.
func TestCut(t *testing.T) {
	a, b, c, other := of(1, "a", 1, "x"), of(1, "b", 1, "x"), of(1, "c", 1, "x"), of(2, "a", 1, "x")
	for _, x := range []struct {
		l    list
		k    api.Key
		want list
	}{
		{nil, a.Key, nil},
		{list{}, a.Key, nil},
		{list{a}, a.Key, nil},
		{list{a, gone(1, "a", 7), of(1, "a", 2, "y")}, a.Key, nil},
		{list{a, b, c}, a.Key, list{b, c}},
		{list{a, b, c}, b.Key, list{a, c}},
		{list{a, b, c}, c.Key, list{a, b}},
		{list{c, a, b, a, other, a}, a.Key, list{c, b, other}},
		{list{c, a, b, a, other, a}, other.Key, list{c, a, b, a, a}},
		{list{a, b, c}, other.Key, list{a, b, c}},
		{list{a, b, c}, key(1, "*"), list{a, b, c}},
		{list{a, of(1, "*", 1, "")}, key(1, "*"), list{a}},
		{list{a, {}}, api.Key{}, list{a}},
		{list{a, b}, key(1<<32+1, "a"), list{a, b}},
	} {
		got := resource.Cut(x.l, x.k)
		if !slices.Equal(got, x.want) {
			t.Errorf("Cut(%v, %v) = %v, want %v", x.l, x.k, got, x.want)
		}
		if r, ok := resource.Find(got, x.k); r != (api.Resource{}) || ok {
			t.Errorf("Find(%v, %v) = %v, %v", got, x.k, r, ok)
		}
	}
}
