package resource_test

import (
	"math/rand"
	"regexp"
	"slices"
	"strings"
	"testing"

	"noria/api"
	"noria/resource"
	"noria/wire"
)

var plainName = regexp.MustCompile(`\A[a-z0-9./-]{1,64}\z`)

func plainRight(r api.Resource) bool {
	return r.Type >= 1 && r.Type <= 5 && plainName.MatchString(r.Name) && r.Seq >= 1 && r.Seq <= 1<<62 &&
		len(r.Body) <= 1024 && !(r.Gone && r.Body != "")
}

// plainGet is the chapter's Get, field by field.
func plainGet(s string) (api.Resource, bool) {
	l, ok := wire.Parse(s)
	var kind, flag uint64
	var r api.Resource
	for _, f := range l {
		switch f.Num {
		case 1:
			kind, ok = f.N, ok && f.Kind == 0
		case 2:
			r.Name, ok = f.S, ok && f.Kind == 2
		case 3:
			r.Seq, ok = f.N, ok && f.Kind == 0
		case 4:
			flag, ok = f.N, ok && f.Kind == 0
		case 5:
			r.Body, ok = f.S, ok && f.Kind == 2
		}
	}
	if !ok || kind > 5 || flag > 1 {
		return api.Resource{}, false
	}
	r.Type, r.Gone = int(kind), flag == 1
	if !plainRight(r) {
		return api.Resource{}, false
	}
	return r, true
}

// plainOrder is -1, 0 or 1, by Type, then by Name.
func plainOrder(a, b api.Key) int {
	if a.Type != b.Type {
		if a.Type < b.Type {
			return -1
		}
		return 1
	}
	return strings.Compare(a.Name, b.Name)
}

// plainSort takes the least key again and again, and of it the best.
func plainSort(l list) list {
	var out list
	for len(l) > 0 {
		best := 0
		for i, r := range l {
			o := plainOrder(r.Key, l[best].Key)
			if o < 0 || o == 0 && r.Seq > l[best].Seq {
				best = i
			}
		}
		out = append(out, l[best])
		l = plainCut(l, l[best].Key)
	}
	return out
}

func plainCut(l list, k api.Key) list {
	var out list
	for _, r := range l {
		if r.Type != k.Type || r.Name != k.Name {
			out = append(out, r)
		}
	}
	return out
}

func plainFind(l list, k api.Key) (api.Resource, bool) {
	for _, r := range l {
		if plainOrder(r.Key, k) == 0 {
			return r, true
		}
	}
	return api.Resource{}, false
}

func plainSet(l list, r api.Resource) list {
	var out list
	stands := false
	for _, x := range l {
		o := plainOrder(x.Key, r.Key)
		if o > 0 && !stands {
			out, stands = append(out, r), true
		}
		if o != 0 {
			out = append(out, x)
		}
	}
	if !stands {
		out = append(out, r)
	}
	return out
}

// oneOf is one of l, mostly of its first few.
func oneOf[T any](r *rand.Rand, l ...T) T {
	if r.Intn(4) > 0 {
		l = l[:(len(l)+1)/2]
	}
	return l[r.Intn(len(l))]
}

// someField is one of a resource's, in which something may be wrong.
func someField(r *rand.Rand) string {
	num := 1 + r.Intn(6)
	if r.Intn(30) == 0 {
		s, _ := wire.Put(oneOf(r, wire.Field{Num: num, Kind: 2, S: "a"}, wire.Field{Num: num, N: 1}, wire.Field{Num: num, Kind: 1, S: "12345678"}, wire.Field{Num: num, Kind: 5, S: "1234"}))
		return s
	}
	switch num {
	case 1:
		return wire.Number(1, oneOf[uint64](r, 1, 2, 3, 4, 5, 5, 0, 6, 1<<32+1, 1<<64-1))
	case 2:
		return wire.Text(2, oneOf(r, "a", "b", "c.d/e-1", longName, "", "*", "A", longName+"a"))
	case 3:
		return wire.Number(3, oneOf[uint64](r, 1, 2, 300, 1<<62, 0, 1<<62+1, 1<<64-1))
	case 4:
		return wire.Number(4, oneOf[uint64](r, 0, 1, 2, 1<<64-1))
	case 5:
		return wire.Text(5, oneOf(r, "", "x", "\x00\xff", longBody, longBody+"x"))
	}
	return wire.Number(6+r.Intn(100), r.Uint64())
}

// someText is fields one behind the other, mostly of each one, some with a byte that was turned.
func someText(r *rand.Rand) string {
	var s strings.Builder
	for _, f := range []string{wire.Number(1, uint64(1+r.Intn(5))), wire.Text(2, "a"), wire.Number(3, 1)} {
		if r.Intn(20) > 0 {
			s.WriteString(f)
		}
	}
	for range r.Intn(4) {
		s.WriteString(someField(r))
	}
	b := []byte(s.String())
	if len(b) > 0 && r.Intn(6) == 0 {
		b[r.Intn(len(b))] ^= 1 << r.Intn(8)
	}
	return string(b)
}

// P4.1: Get held against a plain one, whatever comes (P1); what is got is put, and got again (P4.3).
func TestGetPlainly(t *testing.T) {
	r := rand.New(rand.NewSource(1))
	got := 0
	for range 200000 {
		s := someText(r)
		x, ok := resource.Get(s)
		want, wantOK := plainGet(s)
		if x != want || ok != wantOK {
			t.Fatalf("Get(% x) = %v, %v, want %v, %v", s, x, ok, want, wantOK)
		}
		if !ok {
			continue
		}
		got++
		put, ok := resource.Put(x)
		if again, is := resource.Get(put); again != x || !ok || !is {
			t.Fatalf("Get(Put(%v)) = %v, %v, %v", x, again, ok, is)
		}
	}
	if got < 50000 || got > 150000 {
		t.Errorf("%d of 200000 were got", got)
	}
}

// P4.1, P4.3: just what is Right is put; what was put is got, and stands as its fields do that are not 0, or empty.
func TestPutPlainly(t *testing.T) {
	r := rand.New(rand.NewSource(2))
	put := 0
	for range 100000 {
		x := api.Resource{
			Key:  key(oneOf(r, 1, 2, 3, 4, 5, 0, 6, -1, 1<<32+1), oneOf(r, "a", "b", "c.d/e-1", longName, "", "*", "A", longName+"a")),
			Seq:  oneOf[uint64](r, 1, 2, 300, 1<<62, 0, 1<<62+1, 1<<64-1),
			Gone: r.Intn(3) == 0,
			Body: oneOf(r, "", "x", "\x00\xff", longBody, longBody+"x"),
		}
		s, ok := resource.Put(x)
		if ok != plainRight(x) || !ok && s != "" {
			t.Fatalf("Put(%v) = % x, %v", x, s, ok)
		}
		if !ok {
			continue
		}
		put++
		if got, ok := resource.Get(s); got != x || !ok {
			t.Fatalf("Get(% x) = %v, %v, want %v", s, got, ok, x)
		}
		all, _ := wire.Parse(s)
		for i, f := range all {
			if f.N == 0 && f.S == "" || i > 0 && f.Num <= all[i-1].Num {
				t.Fatalf("Put(%v) has %v", x, all)
			}
		}
	}
	if put < 20000 {
		t.Errorf("%d were put", put)
	}
}

// someList is some resources of few keys and Seqs, sorted or not.
func someList(r *rand.Rand) list {
	var l list
	for range r.Intn(8) {
		l = append(l, someResource(r))
	}
	if r.Intn(3) == 0 {
		return plainSort(l)
	}
	return l
}

func someResource(r *rand.Rand) api.Resource {
	return api.Resource{
		Key:  key(oneOf(r, 1, 2, 0, 5), oneOf(r, "a", "b", "aa", "*", "")),
		Seq:  uint64(r.Intn(4)),
		Gone: r.Intn(4) == 0,
		Body: oneOf(r, "x", "y", "z", ""),
	}
}

// P4.2: lists held against plain ones; what was set is found (P4.3), and what was cut is not.
func TestListsPlainly(t *testing.T) {
	r := rand.New(rand.NewSource(3))
	for range 100000 {
		l, x := someList(r), someResource(r)
		before := slices.Clone(l)
		if got, want := resource.Sort(l), plainSort(l); !slices.Equal(got, want) {
			t.Fatalf("Sort(%v) = %v, want %v", l, got, want)
		}
		if got, want := resource.Cut(l, x.Key), plainCut(l, x.Key); !slices.Equal(got, want) {
			t.Fatalf("Cut(%v, %v) = %v, want %v", l, x.Key, got, want)
		}
		got, ok := resource.Find(l, x.Key)
		if want, is := plainFind(l, x.Key); got != want || ok != is {
			t.Fatalf("Find(%v, %v) = %v, %v, want %v, %v", l, x.Key, got, ok, want, is)
		}
		set := resource.Set(l, x)
		if want := plainSet(l, x); !slices.Equal(set, want) {
			t.Fatalf("Set(%v, %v) = %v, want %v", l, x, set, want)
		}
		if got, ok := resource.Find(set, x.Key); got != x || !ok {
			t.Fatalf("Find(%v, %v) = %v, %v", set, x.Key, got, ok)
		}
		if _, ok := resource.Find(resource.Cut(set, x.Key), x.Key); ok {
			t.Fatalf("%v was not cut", x)
		}
		if !slices.Equal(l, before) {
			t.Fatalf("%v became %v", before, l)
		}
	}
}
