package merge_test

import (
	"math"
	"runtime"
	"slices"
	"strconv"
	"strings"
	"testing"
	"unsafe"

	"noria/api"
	"noria/merge"
	"noria/names"
)

// stands tells whether a text stands where another one does.
func stands(x, s string) bool {
	from, to := uintptr(unsafe.Pointer(unsafe.StringData(s))), uintptr(unsafe.Pointer(unsafe.StringData(x)))
	return to >= from && to < from+uintptr(len(s))
}

// P3: of what is handed in nothing is kept, or told, and what is told is not what is kept.
func TestTextsAreNotKept(t *testing.T) {
	s := strings.Clone("some-text-of-which-names-are-cut")
	m := merge.New()
	var l texts
	tell := func(all ...names.Set) {
		for _, x := range all {
			l = append(l, x.Names...)
		}
	}
	for _, id := range []int{1, 2, 1} {
		more, less, _ := m.Set(id, 1, just(s[:4]))
		tell(more, less)
		more, less, _ = m.Set(id, 1, just(s[5:9], s[:4]))
		tell(more, less)
		more, less, _ = m.Set(id, 1, just(s[5:9]))
		tell(more, less)
	}
	for range 2 {
		tell(m.Union(1), m.Want(1, 1), m.Want(2, 1), m.Lean(1))
		l = append(l, m.Keys(1)...)
	}
	if len(l) != 17 {
		t.Fatalf("%q", l)
	}
	for i, y := range l {
		if stands(y, s) {
			t.Errorf("%q is as it was handed in", y)
		}
		for _, z := range l[:i] {
			if stands(y, z) {
				t.Errorf("%q is shared", y)
			}
		}
	}
}

// P3: what is handed in stays, with what stands behind it in its array, and that counts for nothing; what is done there later is seen nowhere.
func TestWhatIsHandedInStays(t *testing.T) {
	for _, in := range []texts{{"a", "b", "c"}, {"c", "a", "c", "*", "A"}, {"a"}, nil, numbered(0, 65), numbered(0, 64)} {
		array := append(slices.Clone(in), "behind", "x")
		before := slices.Clone(array)
		m := merge.New()
		_, _, errno := m.Set(2, 1, names.Set{Names: array[:len(in)]})
		if !slices.Equal(array, before) {
			t.Errorf("%v became %v", before, array)
		}
		if full := len(in) > 64; full != (errno == api.ErrFull) {
			t.Errorf("Set(%v) = %d", in, errno)
			continue
		} else if full {
			in = nil
		}
		fill(array)
		wantSet(t, "Want", m.Want(2, 1), names.Of(in))
		wantSet(t, "Union", m.Union(1), names.Of(in))
	}
}

// P3: what is told is new, with its spare room: what is written there is seen nowhere else.
func TestListsAreNew(t *testing.T) {
	for _, want := range []names.Set{just("a", "b", "c"), all("a", "b", "c", "d", "e"), just(numbered(0, 7)...)} {
		m := merge.New()
		wants(t, m, 3, 1, just("x", "y"))
		more, less, _ := m.Set(3, 1, want)
		scribbled := []names.Set{more, less, m.Union(1), m.Want(3, 1), m.Lean(1)}
		kept := []names.Set{m.Union(1), m.Want(3, 1), m.Lean(1)}
		keys, who := m.Keys(1), m.Who(api.Key{Type: 1, Name: want.Names[0]})
		for i, s := range scribbled {
			fill(s.Names)
			for _, other := range scribbled[i+1:] {
				if slices.Contains(other.Names, "scribbled") {
					t.Errorf("%v is shared", other)
				}
			}
		}
		fill(m.Keys(1))
		who = who[:cap(who)]
		clear(who)
		wantSet(t, "Want", m.Want(3, 1), want)
		wantSet(t, "Union", m.Union(1), want)
		wantKeys(t, m, 1, keys...)
		wantWho(t, m, 1, want.Names[0], 3)
		// Nor does what was told follow what comes later.
		wants(t, m, 3, 1, just("q"))
		wantSet(t, "the Union that was told", kept[0], want)
		wantSet(t, "the Want that was told", kept[1], want)
		if l := kept[2]; l.All != want.All || !l.All && !equal(l, want) {
			t.Errorf("the Lean that was told = %v", l)
		}
	}
}

// fill writes over a list, with its spare room.
func fill(l texts) {
	l = l[:cap(l)]
	for i := range l {
		l[i] = "scribbled"
	}
}

// P1, P6: at all arguments there is an answer.
func TestEveryCallEnds(t *testing.T) {
	numbers := []int{math.MinInt, math.MinInt + 1, -1 << 32, -1, 0, 1, 2, 5, 6, 32, 33, 1<<31 - 1, 1 << 31, 1 << 32, math.MaxInt - 1, math.MaxInt}
	huge := strings.Repeat("*", 1<<16)
	sets := []names.Set{{}, all(), just("a"), just(noNames...), all(noNames...), just(huge), all("b", "a", "b"), just(slices.Repeat(texts{huge}, 64)...), all(numbered(0, 1000)...)}
	m := merge.New()
	for _, id := range numbers {
		for _, kind := range numbers {
			for _, s := range sets {
				m.Set(id, kind, s)
				m.Want(id, kind)
			}
			for _, name := range append(texts{"a", huge}, noNames...) {
				m.Who(api.Key{Type: kind, Name: name})
			}
			m.Union(kind)
			m.Keys(kind)
			m.Lean(kind)
		}
		if id%2 == 0 {
			m.Drop(id)
		}
	}
	for kind := 1; kind <= api.Types; kind++ {
		if n := len(m.Union(kind).List()); n > api.MaxNames {
			t.Errorf("%d names of %d", n, kind)
		}
	}
}

// tell is what a merge answers to calls that are always the same.
func tell() (l texts) {
	m := merge.New()
	for i := range 300 {
		id, kind := 1+i*7%32, 1+i%5
		want := names.Of(numbered(i*5%50, i*5%50+i%12))
		want.All = i%11 == 0
		more, less, errno := m.Set(id, kind, want)
		l = append(append(append(l, strconv.Itoa(int(errno))), more.List()...), less.List()...)
		if i%30 == 0 {
			l = append(l, told(m)...)
			m.Drop(id)
		}
	}
	return append(l, told(m)...)
}

// P4: the same calls are answered the same, not by the order of a map; merges don't meet one another, one behind the other or at one time.
func TestSameAnswers(t *testing.T) {
	want := tell()
	if len(want) < 3000 {
		t.Fatal(len(want))
	}
	done := make(chan bool)
	for range 8 {
		go func() {
			same := true
			for range 5 {
				same = same && slices.Equal(tell(), want)
			}
			done <- same
		}()
	}
	for range 8 {
		if !<-done {
			t.Error("another answer")
		}
	}
}

// No more is kept than what is wanted now, however much was wanted.
func TestLittleIsKept(t *testing.T) {
	const many = 20
	all := make([]*merge.Merge, many)
	before := inUse()
	for i := range all {
		m := merge.New()
		for n := range 1000 {
			text := strings.Repeat("n", 50) + strconv.Itoa(n)
			wants(t, m, 1+n%32, 1+n%5, just(text, strings.Repeat("x", 1000)+text, text+"a"))
			if n%32 > 2 {
				m.Drop(1 + n%32)
			}
		}
		all[i] = m
	}
	if after := inUse(); after > before+many*100_000 {
		t.Errorf("%d bytes are kept", after-before)
	}
	runtime.KeepAlive(all)
}

// inUse is how many bytes are in use.
func inUse() uint64 {
	var m runtime.MemStats
	runtime.GC()
	runtime.ReadMemStats(&m)
	return m.HeapAlloc
}
