package acks

import (
	"math/rand"
	"strconv"
	"strings"
	"testing"
	"unsafe"

	"noria/api"
	"noria/message"
)

// checkKept holds what is kept against its rules: it is of keys of which something was noted, what is refused rises, is not too much, and has no words once it is told.
func checkKept(t *testing.T, a *Acks) {
	t.Helper()
	for k, seq := range a.taken {
		if _, noted := a.told[k.key]; !noted || seq == 0 || k.id < 1 || k.id > api.MaxNodes {
			t.Fatalf("%v has taken %d", k, seq)
		}
	}
	for k, l := range a.refused {
		if _, noted := a.told[k]; !noted || len(l) == 0 || len(l) > Most {
			t.Fatalf("of %v %v are kept", k, l)
		}
		for i, r := range l {
			if i > 0 && l[i-1].seq >= r.seq || r.told && r.detail != "" {
				t.Fatalf("of %v %v are kept", k, l)
			}
		}
		for _, r := range l[len(l):cap(l)] {
			if r != (refusal{}) {
				t.Fatalf("of %v %v is kept behind them", k, r)
			}
		}
	}
}

// What is kept keeps to its rules, whatever is noted, told, dropped and forgotten.
func TestKept(t *testing.T) {
	r := rand.New(rand.NewSource(1))
	a := New()
	for i := range 20000 {
		k := api.Key{Type: 1 + r.Intn(5), Name: strconv.Itoa(r.Intn(3))}
		s := message.Status{Key: k, Seq: uint64(i/50 + r.Intn(20)), OK: r.Intn(2) == 0}
		if !s.OK {
			s.Detail = strconv.Itoa(i)
		}
		a.Note(r.Intn(35), s)
		switch r.Intn(10) {
		case 0, 1:
			a.Ready(k, []int{r.Intn(35), r.Intn(35)})
		case 2:
			a.Drop(r.Intn(35))
		case 3:
			if r.Intn(10) == 0 {
				a.Forget(k)
			}
		}
		checkKept(t, a)
	}
	if len(a.told) != 15 || len(a.refused) < 10 {
		t.Errorf("%d, %d are kept", len(a.told), len(a.refused))
	}
	for _, k := range a.Keys() {
		a.Forget(k)
	}
	if len(a.taken) > 0 || len(a.refused) > 0 || len(a.told) > 0 {
		t.Errorf("%v, %v, %v are kept", a.taken, a.refused, a.told)
	}
}

// What is asked for, and has nothing noted, is not kept.
func TestAskedIsNotKept(t *testing.T) {
	a := New()
	k := api.Key{Type: 1, Name: "a"}
	a.Ready(k, []int{1})
	a.Least(k, []int{1})
	a.Drop(1)
	a.Note(33, message.Status{Key: k, Seq: 1, OK: true})
	a.Note(1, message.Status{Key: k, Seq: 1, OK: true, Detail: "no"})
	if len(a.taken) > 0 || len(a.refused) > 0 || len(a.told) > 0 {
		t.Errorf("%v, %v, %v are kept", a.taken, a.refused, a.told)
	}
}

// P3: no text is kept that was handed in.
func TestKeptTexts(t *testing.T) {
	text := strings.Repeat("name", 10)
	shared := func(s string) bool {
		at := uintptr(unsafe.Pointer(unsafe.StringData(s)))
		from := uintptr(unsafe.Pointer(unsafe.StringData(text)))
		return at >= from && at < from+uintptr(len(text))
	}
	a := New()
	for seq := uint64(1); seq <= 3; seq++ {
		for id := 1; id <= 2; id++ {
			k := api.Key{Type: 1, Name: text[4*seq : 4*seq+4]}
			a.Note(id, message.Status{Key: k, Seq: seq, OK: true})
			a.Note(id, message.Status{Key: k, Seq: seq, Detail: text[id:]})
			if id == 1 {
				a.Ready(k, []int{1})
			}
			a.Note(id, message.Status{Key: k, Seq: seq + 10, Detail: text[id:]})
		}
	}
	var l []string
	for k := range a.taken {
		l = append(l, k.key.Name)
	}
	for k := range a.told {
		l = append(l, k.Name)
	}
	for k, all := range a.refused {
		l = append(l, k.Name)
		for _, r := range all {
			l = append(l, r.detail)
		}
	}
	if len(l) != 10 {
		t.Fatalf("%q", l)
	}
	for _, s := range l {
		if shared(s) {
			t.Errorf("%q is kept as it was handed in", s)
		}
	}
}
