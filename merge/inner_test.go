package merge

import (
	"errors"
	"maps"
	"math/rand"
	"strconv"
	"strings"
	"testing"
	"unsafe"

	"noria/api"
	"noria/names"
)

// counted is how many name each name of that type, counted anew.
func counted(m *Merge, kind int) tally {
	out := tally{}
	for id := 1; id <= api.MaxNodes; id++ {
		for _, name := range m.wants[topic{id, kind}].List() {
			out[name]++
		}
	}
	return out
}

// checkCounts holds the counts, which only ever turn, against what is wanted.
func checkCounts(t *testing.T, m *Merge) {
	t.Helper()
	for kind := -1; kind <= api.Types+1; kind++ {
		if want := counted(m, kind); !maps.Equal(m.counts[kind], want) {
			t.Fatalf("of %d %v are counted, want %v", kind, m.counts[kind], want)
		}
	}
	if len(m.wants) > api.MaxNodes*api.Types || len(m.counts) > api.Types {
		t.Fatalf("%d, %d are kept", len(m.wants), len(m.counts))
	}
}

// The counts are those of what is wanted, whatever is set, refused and dropped.
func TestCounts(t *testing.T) {
	r := rand.New(rand.NewSource(1))
	m := New()
	for range 3000 {
		id, kind := r.Intn(35), r.Intn(7)
		var l []string
		for range r.Intn(70) {
			l = append(l, strconv.Itoa(r.Intn(70)))
		}
		m.Set(id, kind, names.Set{All: r.Intn(10) == 0, Names: l})
		if r.Intn(10) == 0 {
			m.Drop(id)
		}
		checkCounts(t, m)
	}
}

// What turns a tally leaves the old one as it was.
func TestTurnedIsNew(t *testing.T) {
	old := tally{"a": 2, "b": 1, "*": 1}
	got := old.turned(names.Of([]string{"a", "b"}), names.Of([]string{"a", "c", "*"}))
	if !maps.Equal(got, tally{"a": 2, "c": 1, "*": 2}) || !maps.Equal(old, tally{"a": 2, "b": 1, "*": 1}) {
		t.Errorf("%v, %v", got, old)
	}
	if got := tally(nil).turned(names.Set{}, names.Of([]string{"a"})); !maps.Equal(got, tally{"a": 1}) {
		t.Error(got)
	}
}

// P3: no text is kept that was handed in.
func TestKeptTexts(t *testing.T) {
	text := strings.Repeat("name", 10)
	m := New()
	for _, id := range []int{1, 2} {
		m.Set(id, 1, names.Set{Names: []string{text[4:8], text[:3]}})
	}
	shared := func(name string) bool {
		at := uintptr(unsafe.Pointer(unsafe.StringData(name)))
		from := uintptr(unsafe.Pointer(unsafe.StringData(text)))
		return at >= from && at < from+uintptr(len(text))
	}
	kept := 0
	for _, want := range m.wants {
		for _, name := range want.Names {
			kept++
			if shared(name) {
				t.Errorf("%q is wanted as it was handed in", name)
			}
		}
	}
	for name := range m.counts[1] {
		kept++
		if shared(name) {
			t.Errorf("%q is counted as it was handed in", name)
		}
	}
	if kept != 6 {
		t.Error(kept)
	}
}

// What is refused is an error, wrapped with the id, and told by what it wraps.
func TestFaults(t *testing.T) {
	m := New()
	many := make([]string, api.MaxNames)
	for i := range many {
		many[i] = strconv.Itoa(i)
	}
	m.Set(1, 2, names.Of(many))
	_, _, full := m.turn(topic{3, 2}, names.Of([]string{"*"}))
	for i, c := range []struct {
		err, why error
		words    string
		errno    api.Errno
	}{
		{checkSet(0, 1, names.Set{}), errArg, "id 0: no such id, or type", api.ErrArg},
		{checkSet(-7, 9, names.Of(many)), errArg, "id -7: no such id, or type", api.ErrArg},
		{checkSet(5, 1, names.Of(append(many, "*"))), errFull, "id 5: too many names", api.ErrFull},
		{full, errFull, "id 3: too many names", api.ErrFull},
		{m.checkDrop(2), errNone, "id 2: nothing is wanted", api.ErrNone},
	} {
		if c.err == c.why || !errors.Is(c.err, c.why) || c.err.Error() != c.words || errnoOf(c.err) != c.errno {
			t.Errorf("%d: %v", i, c.err)
		}
	}
	if checkSet(1, 1, names.Of(many)) != nil || m.checkDrop(1) != nil || errnoOf(nil) != api.OK {
		t.Error("what is not to be refused is")
	}
}
