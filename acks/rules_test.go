package acks_test

import (
	"math"
	"runtime"
	"slices"
	"strconv"
	"strings"
	"testing"
	"unsafe"

	"noria/acks"
	"noria/api"
)

// stands tells whether a text stands where another one does.
func stands(x, s string) bool {
	from, to := uintptr(unsafe.Pointer(unsafe.StringData(s))), uintptr(unsafe.Pointer(unsafe.StringData(x)))
	return to >= from && to < from+uintptr(len(s))
}

// P3: of what is handed in nothing is kept, or told, and what is told is not what is kept.
func TestTextsAreNotKept(t *testing.T) {
	s := strings.Clone("some-text-of-which-names-are-cut")
	a := acks.New()
	one, two := at(1, s[:4]), at(1, s[5:9])
	var l []string
	tell := func(k key, who ids) {
		for _, s := range a.Ready(k, who) {
			l = append(l, s.Key.Name)
			if s.Detail != "" {
				l = append(l, s.Detail)
			}
		}
		for _, k := range a.Keys() {
			l = append(l, k.Name)
		}
	}
	for seq := uint64(1); seq <= 3; seq++ {
		for _, k := range (keys{one, two}) {
			take(t, a, k, seq, 1, 2)
			note(t, a, 3, refuses(k, seq, s[3:]), refuses(k, seq+10, s))
			tell(k, ids{1, 2})
			tell(k, nil)
		}
	}
	if len(l) != 52 {
		t.Fatalf("%d: %q", len(l), l)
	}
	for i, y := range l {
		if stands(y, s) {
			t.Errorf("%q is as it was handed in", y)
		}
		for _, z := range l[:i] {
			if stands(y, z) {
				t.Errorf("%q is shared", y)
			}
		}
	}
}

// P3: who is asked for stays, with what stands behind it in its array, and that counts for nothing.
func TestWhatIsHandedInStays(t *testing.T) {
	a := acks.New()
	take(t, a, x, 9, 5, 3, 4)
	take(t, a, x, 2, 1)
	for _, in := range []ids{{5, 3, 4}, {4, 4, 3}, {5}} {
		array := append(slices.Clone(in), 1, 2)
		before := slices.Clone(array)
		wantLeast(t, a, x, 9, array[:len(in)]...)
		ready(t, a, x, array[:len(in)], took(x, 9))
		if !slices.Equal(array, before) {
			t.Errorf("%v became %v", before, array)
		}
		a.Forget(x)
		take(t, a, x, 9, 5, 3, 4)
	}
}

// P3: a list that is told is new, with its spare room: what is written there is seen nowhere else.
func TestListsAreNew(t *testing.T) {
	a := acks.New()
	var all keys
	var want statuses
	for seq := uint64(1); seq <= 5; seq++ {
		all = append(all, at(1, "n"+strconv.Itoa(int(seq))))
		take(t, a, all[seq-1], seq, 1)
		want = append(want, refuses(all[0], seq, "no"))
	}
	one, two := a.Keys(), a.Keys()
	fill(one)
	wantKeys(t, a, all...)
	note(t, a, 1, want...)
	fill(a.Ready(all[0], nil))
	note(t, a, 1, want...)
	ready(t, a, all[0], ids{1}, took(all[0], 1))
	note(t, a, 1, refuses(all[0], 6, "no"))
	told := a.Ready(all[0], nil)
	note(t, a, 1, refuses(all[0], 7, "other"))
	take(t, a, all[0], 9, 1)
	a.Ready(all[0], ids{1})
	a.Forget(all[0])
	if !slices.Equal(told, statuses{refuses(all[0], 6, "no")}) || !slices.Equal(two, all) {
		t.Errorf("%v, %v", told, two)
	}
}

// fill writes over a list, with its spare room.
func fill[E any](l []E) {
	var zero E
	l = l[:cap(l)]
	for i := range l {
		l[i] = zero
	}
}

// P1, P6: at all arguments there is an answer.
func TestEveryCallEnds(t *testing.T) {
	numbers := ids{math.MinInt, math.MinInt + 1, -1 << 32, -1, 0, 1, 2, 5, 6, 32, 33, 1<<31 - 1, 1 << 31, 1 << 32, math.MaxInt - 1, math.MaxInt}
	texts := []string{"", "*", "a", "a/b", "A", "\x00", "\xff", "é", strings.Repeat("a", 64), strings.Repeat("a", 65), strings.Repeat("*", 1<<16)}
	a := acks.New()
	for _, kind := range numbers {
		for _, name := range texts {
			k := at(kind, name)
			for _, id := range numbers {
				for _, seq := range append([]uint64{0}, seqs...) {
					for _, detail := range texts {
						a.Note(id, refuses(k, seq, detail))
						a.Note(id, status{Key: k, Seq: seq, OK: true, Detail: detail})
					}
				}
				a.Least(k, ids{id, 1, id})
				if told := a.Ready(k, ids{id}); len(told) > acks.Most+1 {
					t.Errorf("%d are told", len(told))
				}
			}
			a.Least(k, numbers)
			a.Ready(k, numbers)
			if kind != 1 {
				a.Forget(k)
			}
		}
		a.Drop(kind)
	}
	wantKeys(t, a, at(1, "a"), at(1, "a/b"), at(1, strings.Repeat("a", 64)))
}

// tell is what acks answer to calls that are always the same.
func tell() (l statuses) {
	a := acks.New()
	for i := range 3000 {
		k := at(1+i%5, "n"+strconv.Itoa(i*7%60))
		a.Note(1+i%4, took(k, uint64(1+i/3)))
		if i%3 == 0 {
			a.Note(1+i%6, refuses(k, uint64(1+i/2), strconv.Itoa(i)))
		}
		if i%50 == 0 {
			a.Drop(1 + i%3)
			a.Forget(k)
		}
		if i%200 == 0 {
			for _, k := range a.Keys() {
				l = append(l, took(k, a.Least(k, ids{1, 2})))
				l = append(l, a.Ready(k, ids{3, 4, 1})...)
			}
		}
	}
	return l
}

// P4: the same calls are answered the same, not by the order of a map; acks don't meet one another, one behind the other or at one time.
func TestSameAnswers(t *testing.T) {
	want := tell()
	if len(want) < 1000 {
		t.Fatal(len(want))
	}
	done := make(chan bool)
	for range 8 {
		go func() {
			same := true
			for range 5 {
				same = same && slices.Equal(tell(), want)
			}
			done <- same
		}()
	}
	for range 8 {
		if !<-done {
			t.Error("another answer")
		}
	}
}

// No more is kept than Most that are refused of a key, of what was told no words, and of what was forgotten nothing.
func TestLittleIsKept(t *testing.T) {
	const many = 20
	all := make([]*acks.Acks, many)
	detail := strings.Repeat("x", api.MaxDetail)
	before := inUse()
	for i := range all {
		a := acks.New()
		for n := range 2000 {
			k := at(1, strings.Repeat("n", 50)+strconv.Itoa(n%20))
			take(t, a, k, uint64(n+1), 1+n%32)
			note(t, a, 1, refuses(k, uint64(n+1), detail))
			if n%100 > 80 {
				a.Forget(k)
			}
		}
		for _, k := range a.Keys() {
			a.Ready(k, nil)
		}
		for id := range 33 {
			a.Drop(id)
		}
		all[i] = a
	}
	if after := inUse(); after > before+many*30_000 {
		t.Errorf("%d bytes are kept of each", (after-before)/many)
	}
	runtime.KeepAlive(all)
}

// inUse is how many bytes are in use.
func inUse() uint64 {
	var m runtime.MemStats
	runtime.GC()
	runtime.ReadMemStats(&m)
	return m.HeapAlloc
}
