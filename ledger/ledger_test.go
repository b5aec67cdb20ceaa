package ledger_test

import (
	"math"
	"slices"
	"strconv"
	"strings"
	"testing"

	"noria/api"
	"noria/ledger"
	"noria/message"
)

type (
	key    = api.Key
	keys   = []api.Key
	mark   = ledger.Mark
	marks  = []ledger.Mark
	status = message.Status
)

const (
	pending = ledger.Pending
	taken   = ledger.Taken
	refused = ledger.Refused
	most    = math.MaxUint64
)

// noKeys are none of a version; some are one in the low bits of their Type alone.
var noKeys = keys{
	{}, {Type: 1}, {Type: 0, Name: "a"}, {Type: 6, Name: "a"}, {Type: -1, Name: "a"}, {Type: 1<<8 + 1, Name: "a"}, {Type: 1<<32 + 1, Name: "a"},
	{Type: math.MaxInt, Name: "a"}, {Type: math.MinInt, Name: "a"}, {Type: math.MinInt + 1, Name: "a"}, {Type: 0, Name: "*"}, {Type: 6, Name: "*"},
	{Type: 1, Name: "*"}, {Type: 5, Name: "*"}, {Type: 1, Name: "A"}, {Type: 1, Name: "**"}, {Type: 1, Name: "a*"}, {Type: 1, Name: "a "},
	{Type: 1, Name: "\xff"}, {Type: 1, Name: "a\x00"}, {Type: 1, Name: strings.Repeat("a", 65)},
}

var seqs = []uint64{1, 2, 3, 127, 128, 1<<31 - 1, 1 << 31, 1<<32 - 1, 1 << 32, 1<<32 + 1, 1 << 62, 1<<62 + 1, 1<<63 - 1, 1 << 63, most - 1, most}

// at is a key.
func at(kind int, name string) key { return key{Type: kind, Name: name} }

// a is the key of type 1 of that name.
func a(name string) key { return at(1, name) }

// numbered is the key of type 1 of that number, rising by it.
func numbered(n int) key { return a("n" + strconv.Itoa(10000+n)) }

// took is that a version was taken.
func took(k key, seq uint64) status { return status{Key: k, Seq: seq, OK: true} }

// refuses is that a version was refused, with those words.
func refuses(k key, seq uint64, detail string) status {
	return status{Key: k, Seq: seq, Detail: detail}
}

// is is a mark without a Detail.
func is(k key, seq uint64, state int) mark { return mark{Key: k, Seq: seq, State: state} }

// begin begins marks of k, one behind the other.
func begin(t *testing.T, l *ledger.Ledger, k key, seqs ...uint64) {
	t.Helper()
	for _, seq := range seqs {
		if errno := l.Begin(k, seq); errno != api.OK {
			t.Fatalf("Begin(%v, %d) = %d", k, seq, errno)
		}
	}
}

// note notes what has a mark.
func note(t *testing.T, l *ledger.Ledger, all ...status) {
	t.Helper()
	for _, s := range all {
		if errno := l.Note(s); errno != api.OK {
			t.Fatalf("Note(%.80v) = %d", s, errno)
		}
	}
}

// notBegun begins what is not to be begun, and holds the ledger against itself.
func notBegun(t *testing.T, l *ledger.Ledger, k key, seq uint64, want api.Errno) {
	t.Helper()
	before := l.Marks()
	if errno := l.Begin(k, seq); errno != want {
		t.Errorf("Begin(%.80v, %d) = %d, want %d", k, seq, errno, want)
	}
	has(t, l, before...)
}

// notNoted notes what is not to be noted, and holds the ledger against itself.
func notNoted(t *testing.T, l *ledger.Ledger, s status, want api.Errno) {
	t.Helper()
	before := l.Marks()
	if errno := l.Note(s); errno != want {
		t.Errorf("Note(%.80v) = %d, want %d", s, errno, want)
	}
	has(t, l, before...)
}

// has holds all marks, in both ways in which they are told, against those that are to be.
func has(t *testing.T, l *ledger.Ledger, want ...mark) {
	t.Helper()
	if got := l.Marks(); !slices.Equal(got, want) {
		t.Errorf("%.300v, want %.300v", got, want)
	}
	for _, m := range want {
		if state, detail := l.State(m.Key, m.Seq); state != m.State || detail != m.Detail {
			t.Errorf("State(%v, %d) = %d, %.80q, want %d, %.80q", m.Key, m.Seq, state, detail, m.State, m.Detail)
		}
	}
}

// none asks for a mark that there is not.
func none(t *testing.T, l *ledger.Ledger, k key, seq uint64) {
	t.Helper()
	if state, detail := l.State(k, seq); state != ledger.None || detail != "" {
		t.Errorf("State(%.80v, %d) = %d, %q", k, seq, state, detail)
	}
}

// The chapter's numbers.
func TestConstants(t *testing.T) {
	if ledger.None != 0 || ledger.Pending != 1 || ledger.Taken != 2 || ledger.Refused != 3 || ledger.Room != 1024 {
		t.Error("other numbers")
	}
}

// The chapter's example; P13.1: a new ledger has no marks.
func TestNew(t *testing.T) {
	l := ledger.New()
	for _, k := range append(keys{a("a"), at(5, "b")}, noKeys...) {
		for _, seq := range append([]uint64{0}, seqs...) {
			none(t, l, k, seq)
		}
	}
	has(t, l)
	l.Erase()
	has(t, l)
	notNoted(t, l, took(a("a"), 1), api.ErrNone)
}

// P13.1: what is no key, or all of a type, or has no Seq, is not begun, whatever is marked; all else is, and is Pending.
func TestBeginArg(t *testing.T) {
	l := ledger.New()
	for range 2 {
		for _, k := range noKeys {
			for _, seq := range append([]uint64{0}, seqs...) {
				notBegun(t, l, k, seq, api.ErrArg)
				none(t, l, k, seq)
			}
		}
		notBegun(t, l, a("a"), 0, api.ErrArg)
		notBegun(t, l, a("b"), 0, api.ErrArg)
		if len(l.Marks()) == 0 {
			begin(t, l, a("a"), 5)
		}
	}
	for kind := 1; kind <= api.Types; kind++ {
		for _, name := range []string{"a", "-", "0/z", strings.Repeat("z", 64)} {
			l := ledger.New()
			var want marks
			for _, seq := range seqs {
				begin(t, l, at(kind, name), seq)
				want = append(want, is(at(kind, name), seq, pending))
				has(t, l, want...)
			}
			none(t, l, at(kind, name), 0)
			none(t, l, at(kind, name), 4)
			none(t, l, at(kind, name+"a"), 1)
			none(t, l, at(kind-1, name), 1)
			none(t, l, at(kind+1, name), 1)
		}
	}
}

// P13.1: of a key each mark is newer than those that there are, in whatever State; one key says nothing of another.
func TestBeginStale(t *testing.T) {
	for _, s := range []status{{}, took(a("b"), 5), refuses(a("b"), 5, "no")} {
		l := ledger.New()
		begin(t, l, a("b"), 3, 5)
		if s.Seq != 0 {
			note(t, l, s)
		}
		for _, seq := range []uint64{1, 2, 3, 4, 5} {
			notBegun(t, l, a("b"), seq, api.ErrStale)
		}
		begin(t, l, a("b"), 6)
		notBegun(t, l, a("b"), 6, api.ErrStale)
		begin(t, l, a("b"), most)
		notBegun(t, l, a("b"), most, api.ErrStale)
		notBegun(t, l, a("b"), most-1, api.ErrStale)
		notBegun(t, l, a("b"), 1<<63, api.ErrStale)
		// Ahead of that key, and behind it, by name and by type.
		for _, k := range (keys{a("a"), a("b-"), a("bb"), a("c"), at(2, "b"), at(5, "a")}) {
			begin(t, l, k, 1, 2)
			notBegun(t, l, k, 2, api.ErrStale)
			notBegun(t, l, k, 1, api.ErrStale)
		}
	}
}

// P13.1: of above Room marks the one with the least Seq goes, whatever its State.
func TestRoom(t *testing.T) {
	l := ledger.New()
	var want marks
	for i := range ledger.Room {
		// The newer, the further ahead by Order.
		k, seq := numbered(ledger.Room-i), uint64(i+10)
		begin(t, l, k, seq)
		want = slices.Insert(want, 0, is(k, seq, pending))
	}
	has(t, l, want...)
	for i, state := range []int{taken, refused, pending, taken} {
		last := len(want) - 1
		switch m := want[last]; state {
		case taken:
			note(t, l, took(m.Key, m.Seq))
		case refused:
			note(t, l, refuses(m.Key, m.Seq, "size"))
		}
		k := at(5, "z"+strconv.Itoa(i))
		begin(t, l, k, 5000)
		none(t, l, want[last].Key, want[last].Seq)
		notNoted(t, l, took(want[last].Key, want[last].Seq), api.ErrNone)
		want = want[:last]
		// New ones stand behind the others, in another type.
		has(t, l, append(slices.Clone(want), newOnes(i+1)...)...)
	}
}

// newOnes are the marks that TestRoom begins once there is no room.
func newOnes(n int) marks {
	var l marks
	for i := range n {
		l = append(l, is(at(5, "z"+strconv.Itoa(i)), 5000, pending))
	}
	return l
}

// P13.1: of the same Seq the first by Order goes, by type, then by name.
func TestRoomSameSeq(t *testing.T) {
	l := ledger.New()
	for i := range ledger.Room - 4 {
		begin(t, l, at(3, numbered(i).Name), 7)
	}
	first := keys{a("b"), a("b/"), at(2, "a"), at(3, "-")}
	for _, i := range []int{2, 0, 3, 1} {
		begin(t, l, first[i], 5)
	}
	for i, k := range first {
		if n := len(l.Marks()); n != ledger.Room {
			t.Fatalf("%d marks", n)
		}
		begin(t, l, at(4, numbered(i).Name), 6)
		none(t, l, k, 5)
		for _, later := range first[i+1:] {
			if state, _ := l.State(later, 5); state != pending {
				t.Errorf("%v went ahead of %v", later, k)
			}
		}
	}
	// Now four of 6 go, though all of 7 stand ahead of them.
	for i := range 4 {
		begin(t, l, at(5, numbered(i).Name), 8)
		none(t, l, at(4, numbered(i).Name), 6)
	}
	begin(t, l, at(5, "a"), 8)
	none(t, l, at(3, numbered(0).Name), 7)
	if state, _ := l.State(at(3, numbered(1).Name), 7); state != pending {
		t.Error("two went")
	}
}

// P13.1: it may be the new one that goes: then there is none of it, and all others stay; of the same Seq, too, the Order tells.
func TestRoomNewOneGoes(t *testing.T) {
	l := ledger.New()
	for i := range ledger.Room {
		begin(t, l, at(2, numbered(i).Name), 9)
	}
	before := l.Marks()
	for _, seq := range []uint64{1, 8, 8} {
		for _, k := range (keys{a("a"), at(2, "z"), at(5, "a")}) {
			begin(t, l, k, seq)
			none(t, l, k, seq)
			has(t, l, before...)
		}
	}
	begin(t, l, a("a"), 9)
	none(t, l, a("a"), 9)
	has(t, l, before...)
	begin(t, l, at(2, "z"), 9)
	has(t, l, append(slices.Clone(before[1:]), is(at(2, "z"), 9, pending))...)
}

// P13.1: of a key that has no mark any more any Seq may begin; of one that has others, no Seq below them.
func TestRoomForgets(t *testing.T) {
	l := ledger.New()
	begin(t, l, a("a"), 1)
	begin(t, l, a("b"), 2, most)
	for i := range ledger.Room - 1 {
		begin(t, l, at(2, numbered(i).Name), 100)
	}
	none(t, l, a("a"), 1)
	none(t, l, a("b"), 2)
	notBegun(t, l, a("b"), 2, api.ErrStale)
	notBegun(t, l, a("b"), 200, api.ErrStale)
	begin(t, l, a("a"), 1)
	none(t, l, a("a"), 1)
	begin(t, l, a("a"), 101)
	notBegun(t, l, a("a"), 1, api.ErrStale)
	if len(l.Marks()) != ledger.Room {
		t.Error(len(l.Marks()))
	}
}

// P13.1, P2: with no room, too, what is refused lets nothing go.
func TestRoomRefused(t *testing.T) {
	l := ledger.New()
	for i := range ledger.Room {
		begin(t, l, numbered(i), uint64(i+1))
	}
	notBegun(t, l, numbered(5), 6, api.ErrStale)
	notBegun(t, l, numbered(5), 5, api.ErrStale)
	notBegun(t, l, a("*"), 9999, api.ErrArg)
	notBegun(t, l, at(6, "a"), 9999, api.ErrArg)
	notBegun(t, l, a("a"), 0, api.ErrArg)
}

// P13.2: all marks are told by Order, of a key by Seq, however they were begun.
func TestMarks(t *testing.T) {
	l := ledger.New()
	rising := []string{"-", ".", "/", "0", "10", "9", "a", "a/b", "aa", "b", strings.Repeat("z", 64)}
	var want marks
	for i := range rising {
		for kind := 5; kind >= 1; kind-- {
			begin(t, l, at(kind, rising[i*4%len(rising)]), 2, 10, 1<<63)
		}
	}
	for kind := 1; kind <= 5; kind++ {
		for _, name := range rising {
			for _, seq := range []uint64{2, 10, 1 << 63} {
				want = append(want, is(at(kind, name), seq, pending))
			}
		}
	}
	has(t, l, want...)
}
