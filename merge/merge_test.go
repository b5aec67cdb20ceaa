package merge_test

import (
	"math"
	"slices"
	"strconv"
	"strings"
	"testing"

	"noria/api"
	"noria/merge"
	"noria/names"
)

type texts = []string

// long is the longest name.
var long = strings.Repeat("z", 64)

// noNames are texts that are no name.
var noNames = texts{"", "*", "**", "a*", "A", "a b", "ä", "\x00", "\xff", "_", "a\n", long + "z"}

// noIDs and noKinds are none; some are one in their low bits alone.
var (
	noIDs   = []int{0, -1, 33, 34, 64, 1<<8 + 1, 1<<16 + 1, 1<<32 + 1, -31, math.MaxInt, math.MinInt, math.MinInt + 1}
	noKinds = []int{0, -1, 6, 7, 8, 1<<8 + 1, 1<<32 + 1, -4, math.MaxInt, math.MinInt, math.MinInt + 1}
)

// all wants all, and these names.
func all(l ...string) names.Set { return names.Set{All: true, Names: l} }

// just wants these names.
func just(l ...string) names.Set { return names.Set{Names: l} }

var nothing = just()

// numbered are the names from that number on, up to that one, which is not in it; they rise.
func numbered(from, to int) texts {
	var l texts
	for i := from; i < to; i++ {
		l = append(l, "n"+strconv.Itoa(1000+i))
	}
	return l
}

func equal(a, b names.Set) bool { return a.All == b.All && slices.Equal(a.Names, b.Names) }

func wantSet(t *testing.T, what string, got, want names.Set) {
	t.Helper()
	if !equal(got, want) {
		t.Errorf("%s = %.300v, want %.300v", what, got, want)
	}
}

// set lets an id want that, and holds what the Union wants more, and less, against what it is to be.
func set(t *testing.T, m *merge.Merge, id, kind int, want, more, less names.Set) {
	t.Helper()
	gotMore, gotLess, errno := m.Set(id, kind, want)
	if errno != api.OK {
		t.Fatalf("Set(%d, %d, %.300v) = %d", id, kind, want, errno)
	}
	wantSet(t, "more", gotMore, more)
	wantSet(t, "less", gotLess, less)
}

// wants lets an id want that.
func wants(t *testing.T, m *merge.Merge, id, kind int, want names.Set) {
	t.Helper()
	if _, _, errno := m.Set(id, kind, want); errno != api.OK {
		t.Fatalf("Set(%d, %d, %.300v) = %d", id, kind, want, errno)
	}
}

// refused asks for what is refused, and holds the merge against itself.
func refused(t *testing.T, m *merge.Merge, id, kind int, want names.Set, errno api.Errno) {
	t.Helper()
	before := told(m)
	more, less, got := m.Set(id, kind, want)
	if got != errno || !equal(more, nothing) || !equal(less, nothing) {
		t.Errorf("Set(%d, %d, %.300v) = %.300v, %.300v, %d, want %d", id, kind, want, more, less, got, errno)
	}
	if after := told(m); !slices.Equal(after, before) {
		t.Errorf("Set(%d, %d, %.300v): %.300v became %.300v", id, kind, want, before, after)
	}
}

// told is all that a merge tells of what is wanted.
func told(m *merge.Merge) texts {
	var l texts
	for kind := 1; kind <= api.Types; kind++ {
		l = append(l, m.Keys(kind)...)
		l = append(append(l, "union"), m.Union(kind).List()...)
		l = append(append(l, "lean"), m.Lean(kind).List()...)
		for id := 1; id <= api.MaxNodes; id++ {
			l = append(append(l, "want "+strconv.Itoa(id)), m.Want(id, kind).List()...)
		}
	}
	return l
}

// wantKeys holds Keys, and the Union, whose names they tell, against what is to be.
func wantKeys(t *testing.T, m *merge.Merge, kind int, want ...string) {
	t.Helper()
	if got := m.Keys(kind); !slices.Equal(got, want) {
		t.Errorf("Keys(%d) = %v, want %v", kind, got, want)
	}
	var l texts
	for _, x := range want {
		name, _, _ := strings.Cut(x, " ")
		l = append(l, name)
	}
	if got := m.Union(kind).List(); !slices.Equal(got, l) {
		t.Errorf("Union(%d) wants %v, want %v", kind, got, l)
	}
}

func wantWho(t *testing.T, m *merge.Merge, kind int, name string, want ...int) {
	t.Helper()
	if got := m.Who(api.Key{Type: kind, Name: name}); !slices.Equal(got, want) {
		t.Errorf("Who(%d, %.80q) = %v, want %v", kind, name, got, want)
	}
}

// P14.1: of a new merge nobody wants anything.
func TestNew(t *testing.T) {
	m := merge.New()
	for kind := -1; kind <= 7; kind++ {
		wantSet(t, "Union", m.Union(kind), nothing)
		wantSet(t, "Lean", m.Lean(kind), nothing)
		wantKeys(t, m, kind)
		for id := -1; id <= 34; id++ {
			wantSet(t, "Want", m.Want(id, kind), nothing)
		}
		for _, name := range append(texts{"a", long}, noNames...) {
			wantWho(t, m, kind, name)
		}
	}
	for id := -1; id <= 34; id++ {
		if errno := m.Drop(id); errno != api.ErrNone {
			t.Errorf("Drop(%d) = %d", id, errno)
		}
	}
}

// The chapter's example; P14.1: who is none, or of no type, wants nothing, whatever it is, and that is told ahead of how many names it is.
func TestSetArg(t *testing.T) {
	m := merge.New()
	for range 2 {
		for _, want := range []names.Set{nothing, just("a"), all("b"), just(numbered(0, 65)...), all(numbered(0, 64)...)} {
			for _, id := range noIDs {
				for _, kind := range append([]int{1, 5}, noKinds...) {
					refused(t, m, id, kind, want, api.ErrArg)
				}
			}
			for _, id := range []int{1, 2, 32} {
				for _, kind := range noKinds {
					refused(t, m, id, kind, want, api.ErrArg)
				}
			}
		}
		wants(t, m, 1, 1, all("a"))
		wants(t, m, 32, 5, just("a"))
	}
}

// P14.1: each id may want something of each type, for itself.
func TestSetEach(t *testing.T) {
	m := merge.New()
	name := func(id, kind int) string { return "n" + strconv.Itoa(100*kind+id) }
	for id := 1; id <= 32; id++ {
		for kind := 1; kind <= 5; kind++ {
			x := just(name(id, kind))
			set(t, m, id, kind, x, x, nothing)
		}
	}
	for id := 1; id <= 32; id++ {
		for kind := 1; kind <= 5; kind++ {
			wantSet(t, "Want", m.Want(id, kind), just(name(id, kind)))
			wantWho(t, m, kind, name(id, kind), id)
			if n := len(m.Union(kind).Names); n != 32 {
				t.Errorf("the Union of %d has %d names", kind, n)
			}
		}
	}
}

// P14.1: what an id wants is what it wanted last, and more and less are of the Union, not of what that one wants.
func TestSetMoreAndLess(t *testing.T) {
	m := merge.New()
	for i, c := range []struct {
		id                      int
		want, more, less, union names.Set
	}{
		{2, just("a", "b"), just("a", "b"), nothing, just("a", "b")},
		{2, just("a", "b"), nothing, nothing, just("a", "b")},
		{3, just("b", "c"), just("c"), nothing, just("a", "b", "c")},
		{2, just("b", "d"), just("d"), just("a"), just("b", "c", "d")},
		{3, nothing, nothing, just("c"), just("b", "d")},
		{4, just("b"), nothing, nothing, just("b", "d")},
		{2, nothing, nothing, just("d"), just("b")},
		{2, all(), all(), nothing, all("b")},
		{4, all("x"), just("x"), just("b"), all("x")},
		{2, nothing, nothing, nothing, all("x")},
		{4, just("x"), nothing, all(), just("x")},
		{1, all("x", "y"), all("y"), nothing, all("x", "y")},
		{4, nothing, nothing, nothing, all("x", "y")},
		{1, just("a"), just("a"), all("x", "y"), just("a")},
		{32, just("a"), nothing, nothing, just("a")},
		{1, nothing, nothing, nothing, just("a")},
		{1, nothing, nothing, nothing, just("a")},
		{32, nothing, nothing, just("a"), nothing},
	} {
		set(t, m, c.id, 3, c.want, c.more, c.less)
		wantSet(t, "Want", m.Want(c.id, 3), c.want)
		wantSet(t, "Union", m.Union(3), c.union)
		if t.Failed() {
			t.Fatalf("at %d", i)
		}
	}
}

// P14.1: of another type nothing is more, or less.
func TestSetOfOneType(t *testing.T) {
	m := merge.New()
	wants(t, m, 2, 1, just("a"))
	set(t, m, 2, 2, just("a"), just("a"), nothing)
	set(t, m, 3, 5, all("a"), all("a"), nothing)
	set(t, m, 2, 1, nothing, nothing, just("a"))
	wantKeys(t, m, 1)
	wantKeys(t, m, 2, "a 1")
	wantKeys(t, m, 5, "* 1", "a 1")
	wantSet(t, "Want", m.Want(2, 2), just("a"))
}

// P14.1: what is wanted is as Of of its List, also of a Set that was written down by hand.
func TestSetAsOf(t *testing.T) {
	for _, c := range []struct{ hand, want names.Set }{
		{just("b", "a", "b"), just("a", "b")},
		{just("c", "*", "b"), all("b", "c")},
		{all("*", "*", "a"), all("a")},
		{just(noNames...), all()},
		{all(noNames...), all()},
		{just("", "A", "a", long+"z", long), just("a", long)},
		{just("A", ""), nothing},
		{names.Set{Names: texts{}}, nothing},
	} {
		m := merge.New()
		wants(t, m, 9, 4, just("q"))
		set(t, m, 9, 4, c.hand, c.want, just("q"))
		wantSet(t, "Want", m.Want(9, 4), c.want)
		wantSet(t, "Union", m.Union(4), c.want)
		want := api.ErrNone
		if !c.want.Empty() {
			want = api.OK
		}
		if errno := m.Drop(9); errno != want {
			t.Errorf("%v: Drop = %d", c.hand, errno)
		}
		wantKeys(t, m, 4)
	}
}

// P14.1: one wants at most MaxNames names, of which * is one; what its List has twice, or what is no name in it, counts, too.
func TestSetFull(t *testing.T) {
	same := slices.Repeat(texts{"a"}, 65)
	for kind := 1; kind <= api.Types; kind++ {
		m := merge.New()
		for range 2 {
			for _, x := range []names.Set{just(numbered(0, 65)...), all(numbered(0, 64)...), just(append(numbered(0, 64), "*")...), all(numbered(0, 1000)...), just(same...), all(same[:64]...), just(append(numbered(0, 64), "A")...)} {
				refused(t, m, 1, kind, x, api.ErrFull)
			}
			wants(t, m, 1, kind, just("a"))
		}
		for _, x := range []names.Set{just(numbered(0, 64)...), all(numbered(0, 63)...), just(append(numbered(100, 163), "*")...), all(), just(same[:64]...), all(same[:63]...)} {
			wants(t, m, 1, kind, x)
			wantSet(t, "Want", m.Want(1, kind), names.Of(x.List()))
		}
	}
}

// P14.1: all together want at most MaxNames names of a type; what an id wanted ahead does not count.
func TestSetUnionFull(t *testing.T) {
	m := merge.New()
	wants(t, m, 1, 2, just(numbered(0, 40)...))
	refused(t, m, 2, 2, just(numbered(40, 65)...), api.ErrFull)
	refused(t, m, 2, 2, all(numbered(40, 64)...), api.ErrFull)
	set(t, m, 2, 2, just(numbered(40, 64)...), just(numbered(40, 64)...), nothing)
	refused(t, m, 3, 2, just("a"), api.ErrFull)
	refused(t, m, 3, 2, all(), api.ErrFull)
	refused(t, m, 2, 2, all(numbered(40, 64)...), api.ErrFull)
	refused(t, m, 2, 2, just(numbered(39, 65)...), api.ErrFull)
	// What others want, too, is one name.
	set(t, m, 3, 2, just(numbered(0, 64)...), nothing, nothing)
	set(t, m, 4, 2, nothing, nothing, nothing)
	// What 2 alone wants is free for it, not what others want.
	refused(t, m, 2, 2, just("a"), api.ErrFull)
	set(t, m, 3, 2, nothing, nothing, nothing)
	set(t, m, 2, 2, just(numbered(64, 88)...), just(numbered(64, 88)...), just(numbered(40, 64)...))
	refused(t, m, 1, 2, just(numbered(0, 41)...), api.ErrFull)
	set(t, m, 1, 2, all(numbered(0, 39)...), all(), just(numbered(39, 40)...))
	set(t, m, 3, 2, all(), nothing, nothing)
	refused(t, m, 4, 2, just(numbered(39, 40)...), api.ErrFull)
	// Another type is another one.
	set(t, m, 4, 3, all(numbered(0, 63)...), all(numbered(0, 63)...), nothing)
	if len(m.Union(2).List()) != 64 || len(m.Union(3).List()) != 64 {
		t.Error("another Union")
	}
}

// P14.1: Drop is of all types, and of one id alone; who wants nothing is not dropped, be it none, or dropped, or not.
func TestDrop(t *testing.T) {
	m := merge.New()
	for kind := 1; kind <= 5; kind++ {
		wants(t, m, 7, kind, just("a", "b"))
		wants(t, m, 8, kind, all("b"))
	}
	for id := 1; id <= 5; id++ {
		wants(t, m, id, id, just("z"))
		if errno := m.Drop(id); errno != api.OK {
			t.Errorf("Drop(%d) = %d", id, errno)
		}
	}
	wants(t, m, 9, 1, nothing)
	for _, id := range append([]int{1, 5, 6, 9, 32}, noIDs...) {
		before := told(m)
		if errno := m.Drop(id); errno != api.ErrNone {
			t.Errorf("Drop(%d) = %d", id, errno)
		}
		if after := told(m); !slices.Equal(after, before) {
			t.Errorf("Drop(%d): %v became %v", id, before, after)
		}
	}
	if errno := m.Drop(7); errno != api.OK {
		t.Errorf("Drop = %d", errno)
	}
	for kind := 1; kind <= 5; kind++ {
		wantSet(t, "Want", m.Want(7, kind), nothing)
		wantKeys(t, m, kind, "* 1", "b 1")
		wantWho(t, m, kind, "a", 8)
	}
	if errno := m.Drop(7); errno != api.ErrNone {
		t.Errorf("Drop again = %d", errno)
	}
	set(t, m, 7, 5, just("b"), nothing, nothing)
	if errno := m.Drop(7); errno != api.OK {
		t.Errorf("Drop anew = %d", errno)
	}
}

// P14.1: who is none wants nothing, nor is there anything wanted of what is no type.
func TestWantNone(t *testing.T) {
	m := merge.New()
	for id := 1; id <= 32; id++ {
		for kind := 1; kind <= 5; kind++ {
			wants(t, m, id, kind, all("a"))
		}
	}
	for _, kind := range noKinds {
		wantSet(t, "Union", m.Union(kind), nothing)
		wantSet(t, "Lean", m.Lean(kind), nothing)
		wantSet(t, "Want", m.Want(1, kind), nothing)
		wantKeys(t, m, kind)
		wantWho(t, m, kind, "a")
	}
	for _, id := range noIDs {
		wantSet(t, "Want", m.Want(id, 1), nothing)
	}
}

// P14.2: Who is the ids, rising, that want a name, or all; what is no name nobody wants.
func TestWho(t *testing.T) {
	m := merge.New()
	for id := 32; id >= 1; id-- {
		wants(t, m, id, 1, just("a", "n"+strconv.Itoa(id%3)))
	}
	wants(t, m, 11, 1, all())
	wants(t, m, 4, 1, all("n0"))
	wants(t, m, 20, 2, all())
	var every, third []int
	for id := 1; id <= 32; id++ {
		every = append(every, id)
		if id%3 == 0 || id == 11 || id == 4 {
			third = append(third, id)
		}
	}
	wantWho(t, m, 1, "a", every...)
	wantWho(t, m, 1, "n0", third...)
	wantWho(t, m, 1, "x", 4, 11)
	wantWho(t, m, 1, "n", 4, 11)
	wantWho(t, m, 1, long, 4, 11)
	wantWho(t, m, 2, "a", 20)
	wantWho(t, m, 3, "a")
	for _, name := range noNames {
		wantWho(t, m, 1, name)
	}
}

// P14.2: Keys is the names, rising, byte by byte, each with how many name it; of * how many want all, who count for no name.
func TestKeys(t *testing.T) {
	m := merge.New()
	wants(t, m, 1, 1, just("a", "a-", "a/", "aa", "b", "-"))
	wantKeys(t, m, 1, "- 1", "a 1", "a- 1", "a/ 1", "aa 1", "b 1")
	wants(t, m, 2, 1, just("a", "aa"))
	wants(t, m, 3, 1, all("a", "."))
	wantKeys(t, m, 1, "* 1", "- 1", ". 1", "a 3", "a- 1", "a/ 1", "aa 2", "b 1")
	for id := 4; id <= 32; id++ {
		wants(t, m, id, 1, all("10", "9"))
	}
	wantKeys(t, m, 1, "* 30", "- 1", ". 1", "10 29", "9 29", "a 3", "a- 1", "a/ 1", "aa 2", "b 1")
	wants(t, m, 1, 1, nothing)
	wants(t, m, 4, 1, just("10", long))
	wantKeys(t, m, 1, "* 29", ". 1", "10 29", "9 28", "a 2", "aa 1", long+" 1")
	// Wanted again, it counts once.
	for range 3 {
		wants(t, m, 4, 1, just("10", long))
	}
	wantKeys(t, m, 1, "* 29", ". 1", "10 29", "9 28", "a 2", "aa 1", long+" 1")
	wantKeys(t, m, 2)
}

// P14.2: Lean is the Union, but all alone, if all is wanted.
func TestLean(t *testing.T) {
	m := merge.New()
	wants(t, m, 1, 1, just("a", "b"))
	wants(t, m, 2, 1, just("b", "c"))
	wantSet(t, "Lean", m.Lean(1), just("a", "b", "c"))
	wants(t, m, 3, 1, all("d"))
	wantSet(t, "Lean", m.Lean(1), all())
	wantSet(t, "Union", m.Union(1), all("a", "b", "c", "d"))
	wantSet(t, "Lean", m.Lean(2), nothing)
	wants(t, m, 3, 1, just("d"))
	wantSet(t, "Lean", m.Lean(1), just("a", "b", "c", "d"))
	wants(t, m, 3, 2, all())
	wantSet(t, "Lean", m.Lean(1), just("a", "b", "c", "d"))
	wantSet(t, "Lean", m.Lean(2), all())
}
