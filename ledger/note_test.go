package ledger_test

import (
	"strings"
	"testing"

	"noria/api"
	"noria/ledger"
)

// P13.2: what can't be put is not noted, whether there is a mark or not.
func TestNoteArg(t *testing.T) {
	long := strings.Repeat("x", api.MaxDetail+1)
	l := ledger.New()
	for range 2 {
		for _, k := range noKeys {
			for _, seq := range []uint64{0, 1, 5} {
				notNoted(t, l, took(k, seq), api.ErrArg)
				notNoted(t, l, refuses(k, seq, "no"), api.ErrArg)
			}
		}
		for _, k := range (keys{a("a"), a("b")}) {
			notNoted(t, l, took(k, 0), api.ErrArg)
			notNoted(t, l, refuses(k, 0, ""), api.ErrArg)
			for _, seq := range []uint64{1, 5, 9} {
				notNoted(t, l, refuses(k, seq, long), api.ErrArg)
				for _, detail := range []string{"x", " ", "\x00", long, long[1:]} {
					s := refuses(k, seq, detail)
					s.OK = true
					notNoted(t, l, s, api.ErrArg)
				}
			}
		}
		if len(l.Marks()) == 0 {
			begin(t, l, a("a"), 1, 5)
		}
	}
	has(t, l, is(a("a"), 1, pending), is(a("a"), 5, pending))
}

// P13.2: of what has no mark of its key and Seq nothing is noted, whatever else is marked.
func TestNoteNone(t *testing.T) {
	l := ledger.New()
	begin(t, l, a("b"), 3, 5, 1<<63)
	for _, seq := range []uint64{1, 2, 4, 6, 1<<63 - 1, 1<<63 + 1, most, 1<<32 + 3} {
		notNoted(t, l, took(a("b"), seq), api.ErrNone)
		notNoted(t, l, refuses(a("b"), seq, "no"), api.ErrNone)
		notNoted(t, l, refuses(a("b"), seq, ""), api.ErrNone)
	}
	for _, k := range (keys{a("a"), a("b/"), a("c"), at(2, "b"), at(5, "b"), a("bb")}) {
		for _, seq := range []uint64{1, 3, 5} {
			notNoted(t, l, took(k, seq), api.ErrNone)
			notNoted(t, l, refuses(k, seq, "no"), api.ErrNone)
		}
	}
	has(t, l, is(a("b"), 3, pending), is(a("b"), 5, pending), is(a("b"), 1<<63, pending))
}

// P13.2: what was taken is, with all of its key up to it; what is above it is not, nor what is of another key.
func TestNoteTaken(t *testing.T) {
	for n := range 5 {
		l := ledger.New()
		own := []uint64{1, 2, 10, 1 << 62, most}
		others := keys{a("a"), a("b-"), a("c"), at(2, "b")}
		begin(t, l, a("b"), own...)
		for _, k := range others {
			begin(t, l, k, own...)
		}
		note(t, l, took(a("b"), own[n]))
		var want marks
		for _, k := range (keys{a("a"), a("b"), a("b-"), a("c"), at(2, "b")}) {
			for i, seq := range own {
				m := is(k, seq, pending)
				if k == a("b") && i <= n {
					m.State = taken
				}
				want = append(want, m)
			}
		}
		has(t, l, want...)
		// Once more changes nothing, nor does an earlier one.
		for i := range n + 1 {
			note(t, l, took(a("b"), own[i]))
			has(t, l, want...)
		}
	}
}

// P13.2: what was refused is, it alone, with those words, be they none.
func TestNoteRefused(t *testing.T) {
	for _, detail := range []string{"", "size", "rule 2", "\x00\xff any bytes", strings.Repeat("x", api.MaxDetail)} {
		for n, seq := range []uint64{1, 2, most} {
			l := ledger.New()
			begin(t, l, a("a"), 1, 2, most)
			begin(t, l, a("b"), 1, 2, most)
			begin(t, l, at(2, "a"), 1, 2, most)
			want := l.Marks()
			note(t, l, refuses(a("b"), seq, detail))
			want[3+n].State, want[3+n].Detail = refused, detail
			has(t, l, want...)
		}
	}
}

// P13.2, P13.3: a mark that is Taken, or Refused, stays so, whatever is noted, of it or of later ones, and whatever is begun, or erased.
func TestStays(t *testing.T) {
	l := ledger.New()
	begin(t, l, a("a"), 1, 2, 3, 4)
	note(t, l, refuses(a("a"), 2, "first"))
	all := func(want ...mark) {
		t.Helper()
		has(t, l, want...)
	}
	no := mark{Key: a("a"), Seq: 2, State: refused, Detail: "first"}
	all(is(a("a"), 1, pending), no, is(a("a"), 3, pending), is(a("a"), 4, pending))
	// What is refused stays so, with its words; those below it are taken all the same.
	note(t, l, refuses(a("a"), 2, "second"), refuses(a("a"), 2, ""))
	all(is(a("a"), 1, pending), no, is(a("a"), 3, pending), is(a("a"), 4, pending))
	note(t, l, took(a("a"), 2))
	all(is(a("a"), 1, taken), no, is(a("a"), 3, pending), is(a("a"), 4, pending))
	note(t, l, took(a("a"), 3))
	all(is(a("a"), 1, taken), no, is(a("a"), 3, taken), is(a("a"), 4, pending))
	// What is taken is not refused any more.
	note(t, l, refuses(a("a"), 3, "late"), refuses(a("a"), 1, "late"))
	all(is(a("a"), 1, taken), no, is(a("a"), 3, taken), is(a("a"), 4, pending))
	note(t, l, refuses(a("a"), 4, ""))
	note(t, l, took(a("a"), 4), refuses(a("a"), 4, "late"))
	all(is(a("a"), 1, taken), no, is(a("a"), 3, taken), is(a("a"), 4, refused))
	l.Erase()
	all(is(a("a"), 1, taken), no, is(a("a"), 3, taken), is(a("a"), 4, refused))
	notBegun(t, l, a("a"), 2, api.ErrStale)
	notBegun(t, l, a("a"), 4, api.ErrStale)
	begin(t, l, a("a"), 5)
	all(is(a("a"), 1, taken), no, is(a("a"), 3, taken), is(a("a"), 4, refused), is(a("a"), 5, pending))
}

// P13.2: Erase takes away what is Pending, and that alone; what went may be begun again, also ahead of what it stood behind.
func TestErase(t *testing.T) {
	l := ledger.New()
	for _, k := range (keys{a("a"), a("b"), at(3, "a")}) {
		begin(t, l, k, 1, 2, 3, 4)
		note(t, l, refuses(k, 3, "size"), took(k, 1))
	}
	begin(t, l, a("c"), 9)
	l.Erase()
	var want marks
	for _, k := range (keys{a("a"), a("b"), at(3, "a")}) {
		want = append(want, is(k, 1, taken), mark{Key: k, Seq: 3, State: refused, Detail: "size"})
	}
	has(t, l, want...)
	l.Erase()
	has(t, l, want...)
	none(t, l, a("a"), 2)
	none(t, l, a("a"), 4)
	none(t, l, a("c"), 9)
	notNoted(t, l, took(a("a"), 4), api.ErrNone)
	notNoted(t, l, refuses(a("c"), 9, "no"), api.ErrNone)
	notBegun(t, l, a("a"), 2, api.ErrStale)
	notBegun(t, l, a("a"), 3, api.ErrStale)
	begin(t, l, a("a"), 4)
	begin(t, l, a("c"), 2)
	if state, _ := l.State(a("a"), 4); state != pending {
		t.Error(state)
	}
	note(t, l, took(a("c"), 2))
	if state, _ := l.State(a("c"), 2); state != taken {
		t.Error(state)
	}
}

// P13.1, P13.2: there is room again for what Erase took away.
func TestEraseMakesRoom(t *testing.T) {
	l := ledger.New()
	for i := range ledger.Room {
		begin(t, l, numbered(i), uint64(i+1))
	}
	note(t, l, took(numbered(0), 1))
	l.Erase()
	for i := range ledger.Room - 1 {
		begin(t, l, at(2, numbered(i).Name), uint64(i+1))
	}
	if state, _ := l.State(numbered(0), 1); state != taken || len(l.Marks()) != ledger.Room {
		t.Errorf("%d, of %d", state, len(l.Marks()))
	}
	begin(t, l, at(3, "a"), 1)
	none(t, l, numbered(0), 1)
}
