package acks_test

import (
	"math"
	"slices"
	"strconv"
	"strings"
	"testing"

	"noria/acks"
	"noria/api"
	"noria/message"
)

type (
	key      = api.Key
	keys     = []api.Key
	status   = message.Status
	statuses = []message.Status
	ids      = []int
)

const last = math.MaxUint64

// noStatuses can't be put; some are of a type in the low bits of it alone.
var noStatuses = statuses{
	{}, took(key{}, 1), took(at(1, "a"), 0), refuses(at(1, "a"), 0, ""), refuses(at(1, "a"), 0, "size"),
	took(at(0, "a"), 1), took(at(6, "a"), 1), took(at(-1, "a"), 1), took(at(1<<8+1, "a"), 1), took(at(1<<32+1, "a"), 1), took(at(math.MaxInt, "a"), 1), took(at(math.MinInt+1, "a"), 1),
	refuses(at(0, "a"), 1, "size"), refuses(at(6, "a"), 1, "size"), refuses(at(-4, "a"), 1, "size"),
	took(at(1, "*"), 1), took(at(5, "*"), 1), took(at(1, ""), 1), took(at(1, "A"), 1), took(at(1, "a*"), 1), took(at(1, "a\x00"), 1), took(at(1, strings.Repeat("a", 65)), 1),
	refuses(at(1, "*"), 1, "size"), refuses(at(1, "a b"), 1, "size"), refuses(at(1, strings.Repeat("a", 65)), 1, ""),
	refuses(at(1, "a"), 1, strings.Repeat("x", 257)), refuses(at(1, "a"), last, strings.Repeat("x", 1<<16)),
	{Key: at(1, "a"), Seq: 1, OK: true, Detail: "size"}, {Key: at(1, "a"), Seq: last, OK: true, Detail: "\x00"},
}

// noIDs are none; some are one in their low bits alone.
var noIDs = ids{0, -1, -2, 33, 34, 64, 1<<8 + 1, 1<<16 + 1, 1<<32 + 1, -31, math.MaxInt, math.MinInt, math.MinInt + 1}

var seqs = []uint64{1, 2, 3, 127, 128, 1<<31 - 1, 1 << 31, 1<<32 - 1, 1 << 32, 1<<32 + 1, 1 << 62, 1<<62 + 1, 1<<63 - 1, 1 << 63, last - 1, last}

// at is a key.
func at(kind int, name string) key { return key{Type: kind, Name: name} }

// x and y are two keys of one type.
var x, y = at(2, "x"), at(2, "y")

// took is that a version was taken.
func took(k key, seq uint64) status { return status{Key: k, Seq: seq, OK: true} }

// refuses is that a version was refused, with those words.
func refuses(k key, seq uint64, detail string) status {
	return status{Key: k, Seq: seq, Detail: detail}
}

// note notes what an id did.
func note(t *testing.T, a *acks.Acks, id int, all ...status) {
	t.Helper()
	for _, s := range all {
		if errno := a.Note(id, s); errno != api.OK {
			t.Fatalf("Note(%d, %.80v) = %d", id, s, errno)
		}
	}
}

// take lets an id have taken k up to that.
func take(t *testing.T, a *acks.Acks, k key, seq uint64, who ...int) {
	t.Helper()
	for _, id := range who {
		note(t, a, id, took(k, seq))
	}
}

func wantLeast(t *testing.T, a *acks.Acks, k key, want uint64, who ...int) {
	t.Helper()
	if got := a.Least(k, who); got != want {
		t.Errorf("Least(%.80v, %v) = %d, want %d", k, who, got, want)
	}
}

// ready holds what is to be told against what is told, which is told once.
func ready(t *testing.T, a *acks.Acks, k key, who ids, want ...status) {
	t.Helper()
	if got := a.Ready(k, who); !slices.Equal(got, want) {
		t.Errorf("Ready(%.80v, %v) = %.300v, want %.300v", k, who, got, want)
	}
	if got := a.Ready(k, who); len(got) > 0 {
		t.Errorf("Ready(%.80v, %v) is %.300v once more", k, who, got)
	}
}

func wantKeys(t *testing.T, a *acks.Acks, want ...key) {
	t.Helper()
	if got := a.Keys(); !slices.Equal(got, want) {
		t.Errorf("Keys() = %.300v, want %.300v", got, want)
	}
}

// The chapter's example; P15.1: of new ones nothing is noted.
func TestNew(t *testing.T) {
	a := acks.New()
	for range 2 {
		wantKeys(t, a)
		for kind := -1; kind <= 7; kind++ {
			for _, name := range []string{"a", "", "*", "A", strings.Repeat("z", 64), strings.Repeat("z", 65)} {
				k := at(kind, name)
				wantLeast(t, a, k, 0)
				wantLeast(t, a, k, 0, 1)
				wantLeast(t, a, k, 0, 1, 32)
				wantLeast(t, a, k, 0, noIDs...)
				ready(t, a, k, nil)
				ready(t, a, k, ids{1, 2})
				a.Forget(k)
			}
		}
		for id := -1; id <= 34; id++ {
			a.Drop(id)
		}
	}
}

// P15.1: what is no id notes nothing, nor is what can't be put noted; and nothing changes.
func TestNoteArg(t *testing.T) {
	a := acks.New()
	all := statuses{took(x, 1), took(x, last), refuses(x, 9, "size"), refuses(y, 1, ""), took(at(5, "z"), 7)}
	wrong := func() {
		t.Helper()
		for _, id := range noIDs {
			for _, s := range append(slices.Clone(noStatuses), all...) {
				if errno := a.Note(id, s); errno != api.ErrArg {
					t.Errorf("Note(%d, %.80v) = %d", id, s, errno)
				}
			}
		}
		for _, id := range (ids{1, 2, 32}) {
			for _, s := range noStatuses {
				if errno := a.Note(id, s); errno != api.ErrArg {
					t.Errorf("Note(%d, %.80v) = %d", id, s, errno)
				}
			}
		}
	}
	wrong()
	wantKeys(t, a)
	take(t, a, x, 3, 1, 2)
	note(t, a, 1, refuses(x, 4, "form"))
	wrong()
	wantKeys(t, a, x)
	wantLeast(t, a, x, 3, 1)
	wantLeast(t, a, x, 3, 1, 2)
	wantLeast(t, a, x, 0, 32)
	for _, id := range noIDs {
		wantLeast(t, a, x, 0, id)
	}
	ready(t, a, x, ids{1, 2}, refuses(x, 4, "form"), took(x, 3))
	ready(t, a, y, ids{1, 2})
}

// P15.1: each id, 1 to MaxNodes, may take each type's keys, for itself.
func TestNoteEach(t *testing.T) {
	a := acks.New()
	var all keys
	for kind := 1; kind <= 5; kind++ {
		k := at(kind, strings.Repeat("a", 64))
		all = append(all, k)
		for id := 1; id <= 32; id++ {
			take(t, a, k, uint64(100*kind+id), id)
		}
	}
	wantKeys(t, a, all...)
	for kind, k := range all {
		for id := 1; id <= 32; id++ {
			wantLeast(t, a, k, uint64(100*kind+100+id), id)
		}
		wantLeast(t, a, at(kind+1, strings.Repeat("a", 63)), 0, 1)
	}
}

// P15.1: what an id has taken is the greatest that was noted, whatever comes behind it, and whatever it refuses.
func TestNoteTaken(t *testing.T) {
	for _, order := range [][]uint64{{1, 5, 9}, {9, 5, 1}, {5, 9, 5}, {5, 9, 9, 5}, {9}, {1, 9, 2}} {
		a := acks.New()
		var most uint64
		for _, seq := range order {
			take(t, a, x, seq, 7)
			most = max(most, seq)
			wantLeast(t, a, x, most, 7)
		}
		note(t, a, 7, refuses(x, 2, "size"), refuses(x, 9, "size"), refuses(x, 10, ""))
		wantLeast(t, a, x, 9, 7)
		wantLeast(t, a, y, 0, 7)
		wantLeast(t, a, at(3, "x"), 0, 7)
	}
	for i, seq := range seqs {
		a := acks.New()
		for _, j := range append(slices.Clone(seqs[:i+1]), seqs[:i]...) {
			take(t, a, x, j, 1)
		}
		wantLeast(t, a, x, seq, 1)
	}
}

// P15.1: Least is of those that are asked for, in whatever order, each once or more, and 0 where one of them has taken none.
func TestLeast(t *testing.T) {
	a := acks.New()
	for id := 1; id <= 30; id++ {
		take(t, a, x, uint64(id*id), id)
	}
	take(t, a, y, 4, 31)
	note(t, a, 32, refuses(x, 3, "size"))
	wantLeast(t, a, x, 0)
	for id := 1; id <= 30; id++ {
		wantLeast(t, a, x, uint64(id*id), id)
		for other := id; other <= 30; other++ {
			wantLeast(t, a, x, uint64(id*id), id, other)
			wantLeast(t, a, x, uint64(id*id), other, 30, id, other)
			wantLeast(t, a, x, uint64(id*id), other, id, id)
		}
		for _, none := range append(ids{31, 32}, noIDs...) {
			wantLeast(t, a, x, 0, id, none)
			wantLeast(t, a, x, 0, none, id)
			wantLeast(t, a, x, 0, 30, none, id)
		}
	}
	wantLeast(t, a, y, 4, 31)
	wantLeast(t, a, y, 0, 31, 1)
	for _, seq := range seqs {
		for _, other := range seqs {
			b := acks.New()
			take(t, b, x, seq, 1)
			take(t, b, x, other, 2)
			wantLeast(t, b, x, min(seq, other), 1, 2)
			wantLeast(t, b, x, min(seq, other), 2, 1)
		}
	}
}

// P15.1: of what is refused the first words count, whoever says them, be they none.
func TestNoteRefusedFirst(t *testing.T) {
	for _, first := range []string{"", "size", "rule 2", "\x00\xff any bytes", strings.Repeat("x", 256)} {
		for _, other := range []string{"", "late"} {
			a := acks.New()
			note(t, a, 3, refuses(x, 5, first))
			for _, id := range (ids{3, 2, 32}) {
				note(t, a, id, refuses(x, 5, other))
			}
			note(t, a, 4, refuses(x, 6, other), refuses(y, 5, other), refuses(at(3, "x"), 5, other))
			ready(t, a, x, ids{3}, refuses(x, 5, first), refuses(x, 6, other))
			ready(t, a, y, nil, refuses(y, 5, other))
			// Told, too, it counts.
			note(t, a, 1, refuses(x, 5, other), refuses(x, 5, first))
			ready(t, a, x, ids{3})
		}
	}
}

// P15.1: of a key the latest Most by Seq are kept, told or not, in whatever order they are noted; others have room of their own.
func TestNoteRefusedMost(t *testing.T) {
	if acks.Most != 8 {
		t.Errorf("Most = %d", acks.Most)
	}
	all := func(from, to uint64) (l statuses) {
		for seq := from; seq <= to; seq++ {
			l = append(l, refuses(x, seq, "no "+strconv.FormatUint(seq, 10)))
		}
		return l
	}
	ordered := [][]uint64{{1, 2, 3, 4, 5, 6, 7, 8, 9, 10}, {10, 9, 8, 7, 6, 5, 4, 3, 2, 1}, {5, 9, 1, 3, 10, 2, 8, 4, 7, 6}, {10, 1, 9, 2, 8, 3, 7, 4, 6, 5, 1, 2}}
	for _, order := range ordered {
		a := acks.New()
		for i, seq := range order {
			note(t, a, 1+i, all(seq, seq)...)
			note(t, a, 1, refuses(y, 1, "y"), refuses(at(1, "x"), 1, "1"))
		}
		ready(t, a, x, nil, all(3, 10)...)
		ready(t, a, y, nil, refuses(y, 1, "y"))
		ready(t, a, at(1, "x"), nil, refuses(at(1, "x"), 1, "1"))
		// What is told has its room all the same.
		note(t, a, 1, all(1, 10)...)
		ready(t, a, x, nil)
		note(t, a, 1, all(11, 12)...)
		note(t, a, 1, all(1, 4)...)
		ready(t, a, x, nil, all(11, 12)...)
		note(t, a, 1, all(13, 40)...)
		ready(t, a, x, nil, all(33, 40)...)
	}
	a := acks.New()
	note(t, a, 1, all(3, 10)...)
	ready(t, a, x, nil, all(3, 10)...)
	note(t, a, 1, all(2, 2)...)
	ready(t, a, x, nil)
	b := acks.New()
	note(t, b, 1, all(2, 8)...)
	ready(t, b, x, nil, all(2, 8)...)
	note(t, b, 1, all(1, 1)...)
	ready(t, b, x, nil, all(1, 1)...)
	note(t, b, 1, all(1, 8)...)
	ready(t, b, x, nil)
}

// P15.1: of any Seqs the latest are kept.
func TestNoteRefusedSeqs(t *testing.T) {
	a, b := acks.New(), acks.New()
	for i := range seqs {
		note(t, a, 1, refuses(x, seqs[i], ""))
		note(t, b, 1, refuses(x, seqs[len(seqs)-1-i], ""))
	}
	var want statuses
	for _, seq := range seqs[len(seqs)-8:] {
		want = append(want, refuses(x, seq, ""))
	}
	ready(t, a, x, nil, want...)
	ready(t, b, x, nil, want...)
}

// P15.1: who is dropped has taken nothing, of any key; others have, and what it refused, and was told, stays.
func TestDrop(t *testing.T) {
	a := acks.New()
	all := keys{at(1, "x"), x, y, at(5, "x")}
	for i, k := range all {
		take(t, a, k, uint64(10+i), 1, 2)
		take(t, a, k, uint64(20+i), 3)
	}
	note(t, a, 2, refuses(x, 30, "size"))
	ready(t, a, y, ids{1, 2}, took(y, 12))
	for _, id := range append(ids{4, 32}, noIDs...) {
		a.Drop(id)
	}
	for i, k := range all {
		wantLeast(t, a, k, uint64(10+i), 1, 2, 3)
	}
	for range 2 {
		a.Drop(2)
		for i, k := range all {
			wantLeast(t, a, k, 0, 2)
			wantLeast(t, a, k, 0, 1, 2)
			wantLeast(t, a, k, uint64(10+i), 1, 3)
		}
	}
	ready(t, a, x, ids{1, 2}, refuses(x, 30, "size"))
	ready(t, a, x, ids{1, 3}, took(x, 11))
	// It may take less than it did; what was told so ahead is not told again.
	take(t, a, y, 5, 2)
	wantLeast(t, a, y, 5, 1, 2, 3)
	ready(t, a, y, ids{1, 2})
	take(t, a, y, 12, 2)
	ready(t, a, y, ids{1, 2})
	take(t, a, y, 22, 2, 1)
	ready(t, a, y, ids{1, 2}, took(y, 22))
}

// P15.2: what is refused is told by Seq, then how far all have taken it, where that is above what was told.
func TestReady(t *testing.T) {
	a := acks.New()
	who := ids{2, 3}
	take(t, a, x, 4, 2)
	ready(t, a, x, who)
	ready(t, a, x, nil)
	take(t, a, x, 3, 3)
	ready(t, a, x, nil)
	ready(t, a, x, who, took(x, 3))
	take(t, a, x, 6, 3)
	note(t, a, 3, refuses(x, 7, "size"))
	note(t, a, 2, refuses(x, 5, "form"), refuses(x, 2, ""))
	note(t, a, 9, refuses(x, 4, "port"))
	ready(t, a, x, who, refuses(x, 2, ""), refuses(x, 4, "port"), refuses(x, 5, "form"), refuses(x, 7, "size"), took(x, 4))
	take(t, a, x, 6, 2)
	note(t, a, 2, refuses(x, 6, "late"), refuses(x, 7, "late"))
	ready(t, a, y, who)
	ready(t, a, x, who, refuses(x, 6, "late"), took(x, 6))
	// Of who is not asked for nothing holds it up; who is asked for, too, does.
	take(t, a, x, 9, 2)
	ready(t, a, x, ids{2, 3, 4})
	ready(t, a, x, ids{3})
	ready(t, a, x, ids{2}, took(x, 9))
	take(t, a, x, 8, 3, 4)
	ready(t, a, x, ids{3, 4})
	take(t, a, x, last, 2, 3, 4)
	ready(t, a, x, ids{4, 2, 3, 2}, took(x, last))
	for _, id := range noIDs {
		ready(t, a, x, ids{id})
	}
}

// P15.2: what is told of a key is told of it alone.
func TestReadyOfOneKey(t *testing.T) {
	all := keys{at(1, "x"), x, y, at(2, "x/"), at(5, "x")}
	a := acks.New()
	for i, k := range all {
		take(t, a, k, uint64(9-i), 1)
		note(t, a, 1, refuses(k, uint64(9-i), "no"))
	}
	for i, k := range all {
		ready(t, a, k, ids{1}, refuses(k, uint64(9-i), "no"), took(k, uint64(9-i)))
	}
}

// P15.2: where only one of both is to be told that is told; what is refused waits for nobody.
func TestReadyOne(t *testing.T) {
	a := acks.New()
	note(t, a, 1, refuses(x, 1, "no"))
	ready(t, a, x, ids{1, 2}, refuses(x, 1, "no"))
	take(t, a, x, 1, 1)
	ready(t, a, x, ids{1}, took(x, 1))
	note(t, a, 1, refuses(x, 2, "no"))
	ready(t, a, x, ids{1}, refuses(x, 2, "no"))
	note(t, a, 1, refuses(x, 3, "no"))
	ready(t, a, x, nil, refuses(x, 3, "no"))
}

// P15.2: of what is forgotten nothing is noted, nor told: it may be noted, and told, anew; other keys stay.
func TestForget(t *testing.T) {
	a := acks.New()
	fill := func(all ...key) {
		for _, k := range all {
			take(t, a, k, 5, 1, 32)
			note(t, a, 2, refuses(k, 6, "first"))
		}
	}
	told := func(k key) {
		t.Helper()
		ready(t, a, k, ids{1, 32}, refuses(k, 6, "first"), took(k, 5))
	}
	near := keys{at(1, "x"), at(2, "w"), y, at(3, "x")}
	fill(append(near, x)...)
	told(x)
	told(y)
	a.Forget(x)
	wantKeys(t, a, near...)
	for id := 1; id <= 32; id++ {
		wantLeast(t, a, x, 0, id)
	}
	for range 2 {
		ready(t, a, x, ids{1, 32})
		a.Forget(x)
	}
	// What is none, or all of a type, is no key of which something is noted.
	for _, k := range (keys{{}, at(2, "*"), at(2, ""), at(0, "y"), at(-2, "y"), at(2, "z")}) {
		a.Forget(k)
	}
	wantKeys(t, a, near...)
	for _, k := range near {
		wantLeast(t, a, k, 5, 1, 32)
	}
	ready(t, a, y, ids{1, 32})
	told(at(1, "x"))
	told(at(3, "x"))
	// The same, anew, and less than it was; of what was not told when it was forgotten nothing is.
	fill(x)
	told(x)
	note(t, a, 3, refuses(at(2, "w"), 1, "gone"))
	a.Forget(at(2, "w"))
	take(t, a, at(2, "w"), 1, 1)
	wantKeys(t, a, append(near[:2], append(keys{x}, near[2:]...)...)...)
	ready(t, a, at(2, "w"), ids{1}, took(at(2, "w"), 1))
	a.Forget(x)
	note(t, a, 1, refuses(x, 2, "second"))
	take(t, a, x, 1, 1)
	ready(t, a, x, ids{1}, refuses(x, 2, "second"), took(x, 1))
	wantLeast(t, a, x, 0, 1, 32)
}

// P15.2: Keys is what something was noted of, taken or refused, each once, by Type, then by Name, byte by byte.
func TestKeys(t *testing.T) {
	all := keys{at(1, "z"), at(2, "-"), at(2, "."), at(2, "/"), at(2, "0"), at(2, "10"), at(2, "2"), at(2, "a"), at(2, "a-"), at(2, "aa"), at(2, "b"), at(3, "a"), at(5, "a")}
	for _, jump := range []int{1, 5, 6, 12} {
		a := acks.New()
		for i := range all {
			k := all[(i+1)*jump%len(all)]
			switch i % 3 {
			case 0:
				take(t, a, k, 1, 1, 2)
			case 1:
				note(t, a, 3, refuses(k, 1, "no"))
			case 2:
				note(t, a, 3, took(k, 1), refuses(k, 1, "no"), took(k, 2))
			}
		}
		for range 2 {
			wantKeys(t, a, all...)
			for _, id := range (ids{1, 2, 3}) {
				a.Drop(id)
			}
			for _, k := range all {
				a.Ready(k, ids{1})
			}
		}
		for i, k := range all {
			wantKeys(t, a, all[i:]...)
			a.Forget(k)
		}
		wantKeys(t, a)
	}
}
