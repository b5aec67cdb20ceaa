package ledger

import (
	"math/rand"
	"strconv"
	"strings"
	"testing"
	"unsafe"

	"noria/api"
	"noria/check"
	"noria/message"
)

// checkMarks holds the marks against their rules: each stands where it is to, and is found there; spare room keeps nothing.
func checkMarks(t *testing.T, l *Ledger) {
	t.Helper()
	if len(l.marks) > Room {
		t.Fatalf("%d marks", len(l.marks))
	}
	for i, m := range l.marks {
		if place, ok := l.find(m.Key, m.Seq); place != i || !ok {
			t.Fatalf("%v stands at %d, is found at %d, %v", m, i, place, ok)
		}
		if i == 0 {
			continue
		}
		if n := check.Order(l.marks[i-1].Key, m.Key); n > 0 || n == 0 && l.marks[i-1].Seq >= m.Seq {
			t.Fatalf("%v stands ahead of %v", l.marks[i-1], m)
		}
	}
	for _, m := range l.marks[len(l.marks):cap(l.marks)] {
		if m != (Mark{}) {
			t.Fatalf("%v is kept", m)
		}
	}
}

// The marks keep to their rules, whatever is begun, noted and erased, and with no room too.
func TestMarksStand(t *testing.T) {
	r := rand.New(rand.NewSource(1))
	for range 3 {
		l := New()
		for i := range 2500 {
			k := api.Key{Type: 1 + r.Intn(5), Name: strconv.Itoa(r.Intn(500))}
			seq := uint64(1 + i/10 + r.Intn(3))
			switch n := r.Intn(1500); {
			case n < 1200:
				l.Begin(k, seq)
			case n < 1499:
				l.Note(message.Status{Key: k, Seq: seq, OK: n%2 == 0})
			default:
				l.Erase()
			}
			if len(l.marks) == Room || i%20 == 0 {
				checkMarks(t, l)
			}
		}
		if len(l.marks) < 100 {
			t.Fatalf("%d marks", len(l.marks))
		}
		l.Erase()
		checkMarks(t, l)
	}
}

// A mark that is not there is found where it is to stand.
func TestFindNone(t *testing.T) {
	l := New()
	k := api.Key{Type: 2, Name: "b"}
	l.Begin(k, 5)
	l.Begin(k, 9)
	for _, x := range []struct {
		kind  int
		name  string
		seq   uint64
		place int
	}{
		{1, "z", 99, 0}, {2, "a", 99, 0}, {2, "b", 0, 0}, {2, "b", 4, 0}, {2, "b", 6, 1}, {2, "b", 8, 1}, {2, "b", 10, 2}, {2, "b", 1<<64 - 1, 2}, {2, "b/", 1, 2}, {3, "a", 1, 2},
	} {
		if place, ok := l.find(api.Key{Type: x.kind, Name: x.name}, x.seq); place != x.place || ok {
			t.Errorf("%v: %d, %v", x, place, ok)
		}
	}
}

// P3: no text is kept that was handed in.
func TestKeptTexts(t *testing.T) {
	text := strings.Repeat("name", 10)
	l := New()
	k := api.Key{Type: 1, Name: text[4:8]}
	l.Begin(k, 1)
	l.Note(message.Status{Key: k, Seq: 1, Detail: text[8:]})
	m := l.marks[0]
	if unsafe.StringData(m.Key.Name) == unsafe.StringData(k.Name) || unsafe.StringData(m.Detail) == unsafe.StringData(text[8:]) {
		t.Error("a text is as it was handed in")
	}
	if m != (Mark{Key: k, Seq: 1, State: Refused, Detail: text[8:]}) {
		t.Errorf("%v", m)
	}
}
