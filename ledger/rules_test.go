package ledger_test

import (
	"math"
	"runtime"
	"slices"
	"strconv"
	"strings"
	"testing"
	"unsafe"

	"noria/api"
	"noria/ledger"
)

// stands tells whether a text stands where another one does.
func stands(x, s string) bool {
	from, to := uintptr(unsafe.Pointer(unsafe.StringData(s))), uintptr(unsafe.Pointer(unsafe.StringData(x)))
	return to >= from && to < from+uintptr(len(s))
}

// P3: of what is handed in nothing is kept, and what is told is not what is kept.
func TestTextsAreNotKept(t *testing.T) {
	s := strings.Clone("some-text-of-which-names-are-cut")
	l := ledger.New()
	begin(t, l, a(s[:4]), 1, 2)
	begin(t, l, a(s[5:9]), 1)
	note(t, l, refuses(a(s[:4]), 1, s[3:]), refuses(a(s[5:9]), 1, s))
	var told []string
	for range 2 {
		for _, m := range l.Marks() {
			told = append(told, m.Key.Name)
			if m.Detail != "" {
				told = append(told, m.Detail)
			}
		}
		_, detail := l.State(a("some"), 1)
		told = append(told, detail)
	}
	if len(told) != 12 {
		t.Fatalf("%q", told)
	}
	for i, y := range told {
		if stands(y, s) {
			t.Errorf("%q is as it was handed in", y)
		}
		for _, z := range told[:i] {
			if stands(y, z) {
				t.Errorf("%q is shared", y)
			}
		}
	}
}

// P3: a list that is told is new, with its spare room: what is written there is seen nowhere else.
func TestListsAreNew(t *testing.T) {
	l := ledger.New()
	var want marks
	for i := range 7 {
		begin(t, l, numbered(i), 5)
		want = append(want, is(numbered(i), 5, pending))
	}
	one, two := l.Marks(), l.Marks()
	fill(one)
	has(t, l, want...)
	if !slices.Equal(two, want) {
		t.Errorf("%v", two)
	}
	begin(t, l, numbered(9), 5)
	note(t, l, took(numbered(0), 5))
	l.Erase()
	if !slices.Equal(two, want) {
		t.Errorf("%v", two)
	}
}

// fill writes over a list, with its spare room.
func fill[E any](l []E) {
	var zero E
	l = l[:cap(l)]
	for i := range l {
		l[i] = zero
	}
}

// P1, P6: at all arguments there is an answer.
func TestEveryCallEnds(t *testing.T) {
	numbers := []int{math.MinInt, math.MinInt + 1, -1 << 32, -1, 0, 1, 2, 5, 6, 1<<31 - 1, 1 << 31, 1 << 32, math.MaxInt - 1, math.MaxInt}
	texts := []string{"", "*", "a", "a/b", "A", "\x00", "\xff", "é", strings.Repeat("a", 64), strings.Repeat("a", 65), strings.Repeat("*", 1<<16)}
	for _, many := range []int{0, 1, ledger.Room} {
		l := ledger.New()
		for i := range many {
			begin(t, l, numbered(i), uint64(i+1))
		}
		for _, n := range numbers {
			for _, name := range texts {
				k := at(n, name)
				for _, seq := range append([]uint64{0}, seqs...) {
					l.Begin(k, seq)
					l.State(k, seq)
					for _, detail := range texts {
						l.Note(refuses(k, seq, detail))
						s := took(k, seq)
						s.Detail = detail
						l.Note(s)
					}
				}
			}
			if n := len(l.Marks()); n > ledger.Room {
				t.Error(n)
			}
		}
		l.Erase()
		l.Marks()
	}
}

// tell is what a ledger answers to calls that are always the same.
func tell() (told marks) {
	l := ledger.New()
	for i := range 5000 {
		k := at(1+i%5, "n"+strconv.Itoa(i*7%600))
		l.Begin(k, uint64(1+i/3))
		switch i % 7 {
		case 0:
			l.Note(took(k, uint64(1+i/3)))
		case 3:
			l.Note(refuses(k, uint64(1+i/3), strconv.Itoa(i)))
		}
		if i%500 == 0 {
			told = append(told, l.Marks()...)
		}
		if i == 3000 {
			l.Erase()
		}
	}
	return append(told, l.Marks()...)
}

// P4: the same calls are answered the same; ledgers don't meet one another, one behind the other or at one time.
func TestSameAnswers(t *testing.T) {
	want := tell()
	if len(want) < 5000 {
		t.Fatal(len(want))
	}
	done := make(chan bool)
	for range 8 {
		go func() {
			same := true
			for range 3 {
				same = same && slices.Equal(tell(), want)
			}
			done <- same
		}()
	}
	for range 8 {
		if !<-done {
			t.Error("another answer")
		}
	}
}

// No more is kept than Room marks, however many were begun, and of what went nothing.
func TestLittleIsKept(t *testing.T) {
	const many = 20
	all := make([]*ledger.Ledger, many)
	detail := strings.Repeat("x", api.MaxDetail)
	before := inUse()
	for i := range all {
		l := ledger.New()
		for n := range 3000 {
			k := a(strings.Repeat("n", 50) + strconv.Itoa(n))
			begin(t, l, k, uint64(n+1))
			note(t, l, refuses(k, uint64(n+1), detail))
		}
		// All that were refused go for these, and these go.
		for n := range ledger.Room {
			begin(t, l, a("again"), uint64(5000+n))
		}
		l.Erase()
		all[i] = l
	}
	if after := inUse(); after > before+many*200_000 {
		t.Errorf("%d bytes are kept", after-before)
	}
	runtime.KeepAlive(all)
}

// inUse is how many bytes are in use.
func inUse() uint64 {
	var m runtime.MemStats
	runtime.GC()
	runtime.ReadMemStats(&m)
	return m.HeapAlloc
}
