package resource_test

import (
	"slices"
	"strconv"
	"strings"
	"testing"
	"unsafe"

	"noria/api"
	"noria/resource"
)

// withRoom is a list, sorted or not, with others behind it in its array; told are both.
func withRoom(sorted bool) (l, array list) {
	array = list{of(1, "c", 1, "x"), of(1, "a", 2, "x"), of(1, "a", 3, "y"), of(1, "e", 1, "x"), of(1, "b", 1, "behind"), of(1, "d", 1, "behind")}
	if sorted {
		array = list{of(1, "a", 1, "x"), of(1, "c", 1, "x"), of(1, "c", 2, "y"), of(1, "e", 1, "x"), of(1, "b", 1, "behind"), of(1, "d", 1, "behind")}
	}
	return array[:4], array
}

// calls are those that answer a list, of keys that the list has, and has not, or has behind it.
func calls() map[string]func(list) list {
	m := map[string]func(list) list{"Sort": resource.Sort}
	for _, name := range []string{"", "a", "b", "c", "d", "e", "f"} {
		m["Set "+name] = func(l list) list { return resource.Set(l, of(1, name, 7, "new")) }
		m["Cut "+name] = func(l list) list { return resource.Cut(l, key(1, name)) }
	}
	return m
}

// P3: a list that is handed in stays, and what stands behind it counts for nothing.
func TestListsStay(t *testing.T) {
	for _, sorted := range []bool{false, true} {
		for what, call := range calls() {
			l, array := withRoom(sorted)
			before := slices.Clone(array)
			got := call(l)
			if !slices.Equal(array, before) {
				t.Errorf("%s: %v became %v", what, before, array)
			}
			if slices.ContainsFunc(got, func(r api.Resource) bool { return r.Body == "behind" }) {
				t.Errorf("%s took what stands behind: %v", what, got)
			}
		}
		l, array := withRoom(sorted)
		before := slices.Clone(array)
		if r, ok := resource.Find(l, key(1, "b")); r != (api.Resource{}) || ok {
			t.Errorf("Find = %v, %v", r, ok)
		}
		if !slices.Equal(array, before) {
			t.Errorf("Find: %v became %v", before, array)
		}
	}
}

// P3: a list that is told is new, with its spare room: what is written there is seen nowhere else.
func TestListsAreNew(t *testing.T) {
	for _, sorted := range []bool{false, true} {
		for what, call := range calls() {
			l, array := withRoom(sorted)
			before := slices.Clone(array)
			one, two := call(l), call(l)
			want := slices.Clone(two)
			scribble(one)
			if !slices.Equal(array, before) || !slices.Equal(two, want) || !slices.Equal(call(l), want) {
				t.Errorf("%s shares: %v, %v", what, array, two)
			}
			scribble(array)
			if !slices.Equal(two, want) {
				t.Errorf("%s keeps what was handed in: %v", what, two)
			}
		}
	}
}

func scribble(l list) {
	l = l[:cap(l)]
	for i := range l {
		l[i] = of(9, "scribbled", 9, "scribbled")
	}
}

// P3: a resource that is got does not keep the bytes it came in.
func TestTextsAreNotKept(t *testing.T) {
	s, _ := resource.Put(of(1, "name", 1, "body"))
	r, ok := resource.Get(s)
	if !ok {
		t.Fatal(s)
	}
	from := uintptr(unsafe.Pointer(unsafe.StringData(s)))
	for _, x := range []string{r.Name, r.Body} {
		at := uintptr(unsafe.Pointer(unsafe.StringData(x)))
		if at >= from && at < from+uintptr(len(s)) {
			t.Errorf("%q stands in what it was got from", x)
		}
	}
}

// many is a long list, of each key four versions; far from sorted.
func many() list {
	var l list
	for i := range 4000 {
		n := i * 7 % 1000
		l = append(l, of(1+n%5, strconv.Itoa(n), uint64(i%11), strconv.Itoa(i)))
	}
	return l
}

// P4: the same is answered to the same, not by the order of a map, whatever was asked between.
func TestSameAnswers(t *testing.T) {
	l := many()
	first := resource.Sort(l)
	if want := plainSort(l); !slices.Equal(first, want) {
		t.Fatalf("%d were sorted, want %d", len(first), len(want))
	}
	for range 20 {
		if got := resource.Sort(l); !slices.Equal(got, first) {
			t.Fatal("another order")
		}
		resource.Set(l, of(1, "0", 99, "new"))
		resource.Cut(l, key(1, "0"))
	}
	texts := append([]string{"", "\x00", isA + "\x20\x02"}, strings.Repeat("\x12\x01a", 100000)+isA)
	for _, c := range putCases {
		texts = append(texts, c.want)
	}
	for _, s := range texts {
		r, ok := resource.Get(s)
		for _, other := range texts {
			resource.Get(other)
		}
		if again, is := resource.Get(s); again != r || is != ok {
			t.Errorf("% .80x: another answer", s)
		}
	}
}

// P1: at all arguments there is an answer, also to texts and lists of nothing, or great ones.
func TestEveryCallEnds(t *testing.T) {
	for b := range 256 {
		one := string([]byte{byte(b)})
		for _, s := range []string{one, one + one, isA + one, one + isA, strings.Repeat(one, 1<<16)} {
			if r, ok := resource.Get(s); ok && !plainRight(r) {
				t.Errorf("Get(% .80x) = %v", s, r)
			}
		}
	}
	great := api.Resource{Key: key(1, strings.Repeat("a", 1<<20)), Seq: 1, Body: strings.Repeat("x", 1<<20)}
	if s, ok := resource.Put(great); s != "" || ok {
		t.Error("a great one was put")
	}
	for _, r := range notRight {
		for _, l := range []list{nil, {}, {r}, {r, great}, notRight} {
			set := resource.Set(l, r)
			if got, ok := resource.Find(set, r.Key); got != r || !ok {
				t.Errorf("Find(%v) = %v, %v", r.Key, got, ok)
			}
			if _, ok := resource.Find(resource.Cut(resource.Sort(set), r.Key), r.Key); ok {
				t.Errorf("%v was not cut", r.Key)
			}
		}
	}
}

// P4: calls at one time don't meet one another.
func TestAtOneTime(t *testing.T) {
	l := many()[:200]
	want := resource.Sort(l)
	done := make(chan int)
	for i := range 8 {
		go func() {
			wrong := 0
			for range 50 {
				r := of(1, strconv.Itoa(i), 100, "new")
				if got, ok := resource.Find(resource.Set(l, r), r.Key); got != r || !ok || !slices.Equal(resource.Sort(l), want) {
					wrong++
				}
			}
			done <- wrong
		}()
	}
	for range 8 {
		if wrong := <-done; wrong > 0 {
			t.Errorf("%d answers were others", wrong)
		}
	}
}
