package store_test

import (
	"math"
	"runtime"
	"slices"
	"strconv"
	"strings"
	"testing"
	"unsafe"

	"noria/api"
	"noria/store"
)

// stands tells whether a text stands where another one does.
func stands(x, s string) bool {
	from, to := uintptr(unsafe.Pointer(unsafe.StringData(s))), uintptr(unsafe.Pointer(unsafe.StringData(x)))
	return to >= from && to < from+uintptr(len(s))
}

// P3: of what is handed in nothing is kept, and what is told is not what is kept.
func TestTextsAreNotKept(t *testing.T) {
	s := strings.Clone("some-text-of-which-names-are-cut")
	x := store.New(4, 0)
	for range 2 {
		watch(t, x, a(s[:4]), 1)
		watch(t, x, a(s[:4]), -1)
	}
	put(t, x, 0, res{Key: a(s[:4]), Seq: 1, Body: s[5:9]})
	put(t, x, 0, res{Key: a(s[:4]), Seq: 2, Body: s[5:14]})
	put(t, x, 0, res{Key: a(s[5:9]), Seq: 3, Body: s})
	var told []string
	tell := func(l ...res) {
		for _, r := range l {
			told = append(told, r.Name, r.Body)
		}
	}
	for _, k := range (keys{a("some"), a("text")}) {
		r, _ := x.Get(k)
		tell(r)
	}
	tell(x.List(1)...)
	tell(x.List(1)...)
	for _, k := range x.Sweep(0) {
		told = append(told, k.Name)
	}
	if len(told) != 14 {
		t.Fatalf("%q", told)
	}
	for i, y := range told {
		if stands(y, s) {
			t.Errorf("%q is as it was handed in", y)
		}
		for _, z := range told[:i] {
			if stands(y, z) {
				t.Errorf("%q is shared", y)
			}
		}
	}
}

// P3: a list that is told is new, with its spare room: what is written there is seen nowhere else.
func TestListsAreNew(t *testing.T) {
	x := store.New(10, 5)
	l := numbered(7)
	putKeys(t, x, 0, l[:3]...)
	putKeys(t, x, 1, l[3:]...)
	one, two := x.List(1), x.List(1)
	fill(one)
	keeps(t, x, l...)
	for i, r := range two {
		if r.Key != l[i] {
			t.Errorf("%v stands at %d", r, i)
		}
	}
	gone := x.Sweep(5)
	if !slices.Equal(gone, l[:3]) {
		t.Errorf("%v", gone)
	}
	fill(gone)
	keeps(t, x, l[3:]...)
	sweep(t, x, 6, l[3:]...)
}

// fill writes over a list, with its spare room.
func fill[E any](l []E) {
	var zero E
	l = l[:cap(l)]
	for i := range l {
		l[i] = zero
	}
}

// P1, P6: at all arguments there is an answer.
func TestEveryCallEnds(t *testing.T) {
	numbers := []int{math.MinInt, math.MinInt + 1, -1 << 32, -1, 0, 1, 2, 5, 6, 4096, 1<<31 - 1, 1 << 31, 1 << 32, math.MaxInt - 1, math.MaxInt}
	times := []uint64{0, 1, 1<<31 - 1, 1 << 31, 1<<32 - 1, 1 << 32, 1<<63 - 1, 1 << 63, never - 1, never}
	texts := []string{"", "*", "a", "a/b", "A", "\x00", "\xff", "é", strings.Repeat("a", 64), strings.Repeat("a", 65), strings.Repeat("*", 1<<16)}
	for _, room := range numbers {
		for _, grace := range times {
			s := store.New(room, grace)
			for _, n := range numbers {
				for _, name := range texts {
					k := at(n, name)
					for _, by := range numbers {
						s.Watch(k, by)
					}
					for i, now := range times {
						s.Put(res{Key: k, Seq: now, Gone: i%3 == 0, Body: name}, times[len(times)-1-i])
					}
					s.Wanted(k)
					s.Get(k)
					s.Cut(k)
					s.Put(res{Key: k, Seq: 1}, 0)
				}
				s.List(n)
			}
			for _, now := range times {
				s.Sweep(now)
			}
			if s.Len() < 0 || s.Len() > 4096 {
				t.Error(s.Len())
			}
			s.Reset()
		}
	}
}

// tell is what a store answers to calls that are always the same.
func tell() (l keys) {
	s := store.New(100, 40)
	for i := range 2000 {
		k := at(1+i%5, "n"+strconv.Itoa(i*7%300))
		s.Put(of(k, uint64(1+i)), uint64(i/20))
		if i%3 == 0 {
			s.Watch(k, 1)
		}
		if i%5 == 0 {
			s.Watch(at(1+i*3%5, "n"+strconv.Itoa(i*3%300)), -1)
		}
		if i%100 == 0 {
			l = append(l, s.Sweep(uint64(i/20))...)
			for _, r := range kept(s) {
				l = append(l, r.Key)
			}
		}
	}
	return append(l, s.Sweep(never)...)
}

// P4: the same calls are answered the same, not by the order of a map; stores don't meet one another, one behind the other or at one time.
func TestSameAnswers(t *testing.T) {
	want := tell()
	if len(want) < 500 {
		t.Fatal(len(want))
	}
	done := make(chan bool)
	for range 8 {
		go func() {
			same := true
			for range 10 {
				same = same && slices.Equal(tell(), want)
			}
			done <- same
		}()
	}
	for range 8 {
		if !<-done {
			t.Error("another answer")
		}
	}
}

// No more is kept than there is room for, and than there are who watch, however many there were.
func TestLittleIsKept(t *testing.T) {
	const many = 20
	all := make([]*store.Store, many)
	body := strings.Repeat("x", api.MaxBody)
	before := inUse()
	for i := range all {
		s := store.New(2, 3)
		for n := range 20000 {
			name := "n" + strconv.Itoa(n)
			watch(t, s, a(name), 1)
			put(t, s, uint64(n), res{Key: a(name), Seq: 1, Body: body}, res{Key: a("again"), Seq: uint64(n + 1), Body: body[1:]})
			s.Sweep(uint64(n))
			watch(t, s, a(name), -1)
			if n%5 == 0 {
				s.Reset()
			}
		}
		all[i] = s
	}
	if after := inUse(); after > before+many<<14 {
		t.Errorf("%d bytes are kept", after-before)
	}
	runtime.KeepAlive(all)
}

// inUse is how many bytes are in use.
func inUse() uint64 {
	var m runtime.MemStats
	runtime.GC()
	runtime.ReadMemStats(&m)
	return m.HeapAlloc
}
