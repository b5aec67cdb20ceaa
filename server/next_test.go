package server_test

import (
	"math"
	"slices"
	"strings"
	"testing"

	"noria/api"
	"noria/message"
	"noria/names"
)

// P11.2: nothing is told where there is no such type, where nothing was asked of it, or while something is open.
func TestNextNothing(t *testing.T) {
	for _, delta := range []bool{false, true} {
		l := each("a")
		s := wants(t, delta, "a")
		for _, kind := range append(noTypes, 2, 3, 4, 5) {
			x := append(slices.Clone(l), of(kind, "a", 1))
			if after, r, ok := s.Next(kind, x, everything); ok || !sameResp(r, resp{}) || !sameServer(after, s) {
				t.Errorf("Next(%d) = %s, %v", kind, short(r), ok)
			}
		}
		none(t, srv{}, l, everything)
		none(t, srv{Begun: true, Delta: delta}, l, everything)
		open := next(t, s, l, everything, resp{Version: 1, Resources: l}, sentOf(l))
		more := each("b", "a")
		none(t, open, l, everything)
		none(t, open, more, everything)
		none(t, asked(t, open, req{Type: 2, Delta: delta}), more, everything)
		if delta {
			none(t, asked(t, open, req{Delta: true, Sub: texts{"b"}}), more, everything)
		}
		next(t, answered(t, open), more, everything, resp{Version: 2, Resources: more[1:]}, sentOf(more[1:]))
	}
}

// P11.2: nothing is told, too, of a topic that was written down by hand, and not asked, or is of no type.
func TestNextNothingByHand(t *testing.T) {
	for _, delta := range []bool{false, true} {
		s := srv{Begun: true, Delta: delta}
		for kind := range s.Topics {
			s.Topics[kind] = topic{Want: set("a", "b"), Asked: true, Due: true}
		}
		l := each("a")
		for kind := 0; kind <= api.Types; kind++ {
			l[0].Type = kind
			if _, r, ok := s.Next(kind, l, everything); ok != (kind > 0) || ok && len(r.Resources) != 1 {
				t.Errorf("Next(%d) = %s, %v", kind, short(r), ok)
			}
		}
		l[0].Type = 1
		s.Topics[1].Asked = false
		none(t, s, l, everything)
	}
}

// P11.2: held is what is of that type, right, not gone, and wanted, rising by name, of a name the first alone.
func TestHeld(t *testing.T) {
	gone := of(1, "a", 1)
	gone.Gone = true
	full := of(1, "f", 3)
	full.Body = strings.Repeat("x", api.MaxBody)
	wrong := of(1, "g", 3)
	wrong.Body = strings.Repeat("x", api.MaxBody+1)
	l := list{
		of(1, "c", 4), of(2, "a", 50), gone, of(1, "", 51), of(1, "*", 52), of(1, "A", 53), of(1, "a", 0), of(1, "a", 1<<62+1),
		of(1, "a", 7), of(1, "other", 60), of(1, "c", 9), of(1, "b", 1), full, wrong, of(1, "a", 8), of(0, "b", 54), of(6, "b", 55),
		of(1, longName, 1), of(1, longName+"z", 56), of(1, "c", 1),
	}
	held := list{of(1, "a", 7), of(1, "b", 1), of(1, "c", 4), full, of(1, longName, 1)}
	for _, delta := range []bool{false, true} {
		s := wants(t, delta, "a", "b", "c", "f", longName)
		next(t, s, l, everything, resp{Version: 7, Resources: held}, sentOf(held))
		all := append(slices.Clone(held[:4]), of(1, "other", 60), held[4])
		next(t, wants(t, delta, "*"), l, everything, resp{Version: 60, Resources: all}, sentOf(all))
		next(t, wants(t, delta, "*", "a"), l, everything, resp{Version: 60, Resources: all}, sentOf(all))
	}
}

// P11.2: of names whose first is gone, or not right, the first that is held counts; a greatest Seq is one that is right.
func TestHeldSeqs(t *testing.T) {
	gone := of(1, "b", 9)
	gone.Gone = true
	l := list{gone, of(1, "b", math.MaxUint64), of(1, "a", 1<<62), of(1, "b", 2), of(1, "b", 3)}
	held := list{l[2], l[3]}
	for _, delta := range []bool{false, true} {
		next(t, wants(t, delta, "a", "b"), l, everything, resp{Version: 1 << 62, Resources: held}, sentOf(held))
	}
}

// P11.2: a whole stream is told nothing, till of all that is wanted it is known whether there is one.
func TestNextWholeKnown(t *testing.T) {
	l := each("a", "b")
	for _, x := range []struct {
		want  texts
		known names.Set
		ok    bool
	}{
		{texts{"a", "b"}, everything, true},
		{texts{"a", "b"}, set("a", "b", "c"), true},
		{texts{"a", "b"}, set("*", "a"), true},
		{texts{"a", "b"}, set("a"), false},
		{texts{"a", "b"}, set("b", "c"), false},
		{texts{"a", "b"}, set(), false},
		{texts{"a", "b", "d"}, set("a", "b"), false},
		{texts{"a", "b", "d"}, set("a", "b", "d"), true},
		{texts{"*"}, set("a", "b"), false},
		{texts{"*"}, set(), false},
		{texts{"*"}, set("*"), true},
		{texts{"*", "a"}, set("a", "b"), false},
		{texts{"*", "d"}, set("*"), true},
		{texts{"*", "d"}, names.Set{All: true, Names: texts{"e"}}, true},
		{texts{"a", "b"}, names.Set{Names: texts{"b", "b", "A", "a", ""}}, true},
	} {
		s := wants(t, false, x.want...)
		if !x.ok {
			none(t, s, l, x.known)
			continue
		}
		next(t, s, l, x.known, resp{Version: 2, Resources: l}, sentOf(l))
	}
	next(t, wants(t, false), l, names.Set{}, resp{}, nil)
}

// P11.2: a whole stream's response has all that is held, also where it has less than it had, or nothing.
func TestNextWhole(t *testing.T) {
	l := each("a", "b", "c")
	s := told(t, wants(t, false, "a", "b", "c", "d"), l, everything, resp{Version: 3, Resources: l}, sentOf(l))
	l[1].Seq = 9
	s = told(t, s, l, everything, resp{Version: 9, Resources: l}, sentOf(l))
	l = append(l, of(1, "d", 4))
	s = told(t, s, l, everything, resp{Version: 9, Resources: l}, sentOf(l))
	s = told(t, s, l[2:], everything, resp{Version: 4, Resources: l[2:]}, sentOf(l[2:]))
	s = told(t, s, nil, everything, resp{}, nil)
	s = told(t, s, l[:1], everything, resp{Version: 1, Resources: l[:1]}, sentOf(l[:1]))
	// an older one, too, is another one
	l[0].Seq, l[2].Seq = 5, 2
	s = told(t, s, l, everything, resp{Version: 9, Resources: l}, sentOf(l))
	if s.Topics[1].Last != 7 {
		t.Errorf("%d were sent", s.Topics[1].Last)
	}
}

// P11.2: a whole stream is not told once more what was sent, but where what is wanted turned.
func TestNextWholeTheSame(t *testing.T) {
	l := each("a", "b")
	s := told(t, wants(t, false, "a", "b"), l, everything, resp{Version: 2, Resources: l}, sentOf(l))
	none(t, s, l, everything)
	slices.Reverse(l)
	none(t, s, append(l, of(2, "a", 9), of(1, "c", 9), of(1, "b", 9)), everything)
	slices.Reverse(l)
	s = asked(t, s, req{Nonce: 1, Sub: texts{"b", "a"}})
	none(t, s, l, everything)
	// what counts is names and Seqs
	l[0].Body = "other"
	none(t, s, l, everything)
	s = asked(t, s, req{Nonce: 1, Sub: texts{"b", "a", "c"}})
	none(t, s, l, set("a", "b"))
	s = told(t, s, l, everything, resp{Version: 2, Resources: l}, sentOf(l))
	none(t, s, l, everything)
	// nothing is something to tell, the first time
	s = told(t, wants(t, false, "c"), l, everything, resp{}, nil)
	none(t, s, l, everything)
	told(t, wants(t, false), l, everything, resp{}, nil)
}

// P11.2: of a whole stream nothing is told, if above 40 are held, however many are wanted.
func TestNextWholeBatch(t *testing.T) {
	l := each(some(64)...)
	for _, want := range []texts{{"*"}, some(64)} {
		s := wants(t, false, want...)
		next(t, s, l[:40], everything, resp{Version: 40, Resources: l[:40]}, sentOf(l[:40]))
		for _, n := range []int{41, 50, 64} {
			none(t, s, l[:n], everything)
		}
	}
	next(t, wants(t, false, some(40)...), l, everything, resp{Version: 40, Resources: l[:40]}, sentOf(l[:40]))
	none(t, wants(t, false, some(41)...), l, everything)
}

// P11.2: of Delta what is held, and was not sent with its Seq, is told, also where little is known.
func TestNextDelta(t *testing.T) {
	l := each("a", "b", "c")
	s := told(t, wants(t, true, "a", "b", "c", "d"), l, set(), resp{Version: 3, Resources: l}, sentOf(l))
	none(t, s, l, set())
	l[1].Seq = 9
	s = told(t, s, l, set("x"), resp{Version: 9, Resources: l[1:2]}, sentOf(l))
	none(t, s, l, set("a", "b", "c"))
	l[0].Body = "other"
	none(t, s, l, set("a", "b", "c"))
	l = append(l, of(1, "d", 4), of(1, "e", 10))
	s = told(t, s, l, set(), resp{Version: 9, Resources: l[3:4]}, sentOf(l[:4]))
	// an older one, too, is another one
	l[1].Seq = 2
	s = told(t, s, l, set(), resp{Version: 4, Resources: l[1:2]}, sentOf(l[:4]))
	// what is not held any more stays sent, as long as it is not known
	none(t, s, l[:1], set())
	none(t, s, l, everything)
	// Version is of what is held, be it told now or not
	told(t, s, append(each("a"), of(1, "b", 2), of(1, "c", 7)), set(), resp{Version: 7, Resources: list{of(1, "c", 7)}}, haves{had("a", 1), had("b", 2), had("c", 7), had("d", 4)})
}

// P11.2: of Delta the names that are known, and were sent, and are not held any more, are removed; once.
func TestNextDeltaRemoved(t *testing.T) {
	l := each("a", "b", "c")
	for _, want := range []texts{{"a", "b", "c"}, {"*"}, {"*", "b"}} {
		s := told(t, wants(t, true, want...), l, everything, resp{Version: 3, Resources: l}, sentOf(l))
		part := resp{More: slices.Contains(want, "*")}
		none(t, s, l[:1], set("a"))
		r := part
		r.Version, r.Removed = 1, texts{"b"}
		s = told(t, s, l[:1], set("a", "b"), r, haves{had("a", 1), had("b", 0), had("c", 3)})
		none(t, s, l[:1], set("a", "b"))
		s = told(t, s, l[:1], everything, resp{Version: 1, Removed: texts{"c"}}, sentOf(l[:1], "b", "c"))
		none(t, s, l[:1], everything)
		// it comes again, and goes
		s = told(t, s, l[:2], everything, resp{Version: 2, Resources: l[1:2]}, sentOf(l[:2], "c"))
		gone := of(1, "b", 5)
		gone.Gone = true
		s = told(t, s, list{gone}, everything, resp{Removed: texts{"a", "b"}}, haves{had("a", 0), had("b", 0), had("c", 0)})
		none(t, s, nil, everything)
	}
}

// P11.2: of Delta the names that are wanted by name, and known, and neither held nor sent, are removed; once.
func TestNextDeltaThereIsNone(t *testing.T) {
	l := each("b")
	s := wants(t, true, "a", "b", "c", "d")
	none(t, s, nil, set())
	none(t, s, nil, set("x", "y"))
	s = told(t, s, l, set("b", "d", "x"), resp{Version: 1, Resources: l, Removed: texts{"d"}}, sentOf(l, "d"))
	none(t, s, l, set("b", "d", "x"))
	s = told(t, s, l, set("c", "a"), resp{Version: 1, Removed: texts{"a", "c"}}, sentOf(l, "a", "c", "d"))
	none(t, s, l, everything)
	// of all names those that are wanted by name alone
	s = told(t, wants(t, true, "*", "a"), l, everything, resp{Version: 1, Resources: l, Removed: texts{"a"}}, sentOf(l, "a"))
	none(t, s, l, everything)
	// what a first request had with 0 is known to be none
	first := asked(t, srv{}, req{Delta: true, Sub: texts{"a", "b", "c"}, Have: haves{had("a", 0), had("b", 7), had("x", 1)}})
	told(t, first, nil, everything, resp{Removed: texts{"b", "c"}}, haves{had("a", 0), had("b", 0), had("c", 0)})
	told(t, first, each("a", "b"), everything, resp{Version: 2, Resources: each("a", "b"), Removed: texts{"c"}}, sentOf(each("a", "b"), "c"))
}

// P11.2: names are known as known Has them: those that rise, and are wanted, come first; whatever order known has them in.
func TestNextDeltaKnownByHand(t *testing.T) {
	s := wants(t, true, "a", "b", "c")
	known := names.Set{Names: texts{"c", "", "A", "c", "a", "*"}}
	told(t, s, nil, known, resp{Removed: texts{"a", "c"}}, haves{had("a", 0), had("c", 0)})
	known = names.Set{All: true, Names: texts{"x"}}
	told(t, s, nil, known, resp{Removed: texts{"a", "b", "c"}}, haves{had("a", 0), had("b", 0), had("c", 0)})
}

// noneOf is what was sent, where it was told that there is none of these.
func noneOf(l texts) haves { return sentOf(nil, l...) }

// P11.2: of Delta a response has the first 40, and 40 names that are removed; More tells that some were left out.
func TestNextDeltaBatch(t *testing.T) {
	l := each(some(64)...)
	for _, want := range []texts{some(64), {"*"}} {
		s := wants(t, true, want...)
		for _, n := range []int{1, 39, 40} {
			r := resp{Version: uint64(n), Resources: l[:n]}
			next(t, s, l[:n], set(some(n)...), withMore(r, want), sentOf(l[:n]))
		}
		for _, n := range []int{41, 64} {
			x := told(t, s, l[:n], everything, resp{Version: uint64(n), Resources: l[:40], Removed: beyond(want, n), More: true}, sentOf(l[:40], beyond(want, n)...))
			told(t, x, l[:n], everything, resp{Version: uint64(n), Resources: l[40:n]}, sentOf(l[:n], beyond(want, n)...))
		}
	}
	s := wants(t, true, some(64)...)
	told(t, s, nil, set(some(40)...), resp{Removed: some(40)}, noneOf(some(40)))
	s = told(t, s, nil, set(some(41)...), resp{Removed: some(40), More: true}, noneOf(some(40)))
	told(t, s, nil, everything, resp{Removed: some(64)[40:]}, noneOf(some(64)))
}

// withMore is r as it is told where not all is known.
func withMore(r resp, want texts) resp {
	r.More = want[0] == "*"
	return r
}

// beyond are the names that are wanted behind the first n.
func beyond(want texts, n int) texts {
	if want[0] == "*" {
		return nil
	}
	return want[n:]
}

// P11.2: both are cut by themselves, and rise by name: some were sent, some not, some are wanted by name.
func TestNextDeltaBothBatches(t *testing.T) {
	all := some(90)
	l := each(all[:45]...)
	s := wants(t, true, append(all[40:90], "*")...)
	s = told(t, s, l, everything, resp{Version: 45, Resources: l[:40], Removed: all[45:85], More: true}, sentOf(l[:40], all[45:85]...))
	s = told(t, s, l, everything, resp{Version: 45, Resources: l[40:], Removed: all[85:]}, sentOf(l, all[45:]...))
	none(t, s, l, everything)
	s = told(t, s, nil, everything, resp{Removed: all[:40], More: true}, sentOf(l[40:], append(slices.Clone(all[:40]), all[45:]...)...))
	// of two that rise the first of either are left out
	s = asked(t, s, req{Delta: true, Sub: texts{"a", "z"}})
	s = told(t, s, nil, everything, resp{Removed: append(append(texts{"a"}, all[40:45]...), "z")}, noneOf(append(append(texts{"a"}, all...), "z")))
	none(t, s, nil, everything)
}

// P11.2: More tells, too, that all is wanted, and is not known; then it is Due still, till it is told that it is all.
func TestNextDeltaMore(t *testing.T) {
	l := each("a", "b")
	s := wants(t, true, "*")
	none(t, s, nil, set())
	none(t, s, nil, set("a"))
	s = told(t, s, l[:1], set("a"), resp{Version: 1, Resources: l[:1], More: true}, sentOf(l[:1]))
	if !s.Topics[1].Due {
		t.Error("it is not Due")
	}
	none(t, s, l[:1], set("a"))
	end := told(t, s, l[:1], everything, resp{Version: 1}, sentOf(l[:1]))
	none(t, end, l[:1], everything)
	end = told(t, s, l, everything, resp{Version: 2, Resources: l[1:]}, sentOf(l))
	if end.Topics[1].Due {
		t.Error("it is Due")
	}
	none(t, end, l, everything)
	// nothing turned since, and so it is not Due by More alone
	more := told(t, end, l[:1], set("b"), resp{Version: 1, Removed: texts{"b"}, More: true}, sentOf(l[:1], "b"))
	if more.Topics[1].Due {
		t.Error("it is Due by More alone")
	}
	none(t, more, l[:1], everything)
}

// P11.2: who wants all, and is told nothing, is told that it is all; once, and each time that what is wanted turned.
func TestNextDeltaEnd(t *testing.T) {
	s := wants(t, true, "*")
	none(t, s, nil, names.Set{Names: some(9)})
	s = told(t, s, nil, everything, resp{}, nil)
	none(t, s, nil, everything)
	s = asked(t, s, req{Delta: true, Sub: texts{"a"}})
	s = told(t, s, nil, everything, resp{Removed: texts{"a"}}, noneOf(texts{"a"}))
	s = asked(t, s, req{Delta: true, Unsub: texts{"a"}})
	s = told(t, s, nil, everything, resp{}, noneOf(texts{"a"}))
	none(t, s, nil, everything)
	// without all nothing is told
	s = asked(t, s, req{Delta: true, Sub: texts{"b"}, Unsub: texts{"*"}})
	s = told(t, s, nil, everything, resp{Removed: texts{"b"}}, noneOf(texts{"b"}))
	s = asked(t, s, req{Delta: true, Unsub: texts{"b"}})
	none(t, s, nil, everything)
	none(t, wants(t, true), nil, everything)
	had := asked(t, srv{}, req{Delta: true, Sub: texts{"a"}, Have: haves{had("a", 1)}})
	none(t, had, each("a"), everything)
}

// P11.2: it is not Due any more, once something was told, but with More; where nothing is told it stays Due.
func TestNextDue(t *testing.T) {
	l := each(some(41)...)
	for _, delta := range []bool{false, true} {
		s := wants(t, delta, "n1000", "n1040")
		none(t, s, nil, set())
		if !s.Topics[1].Due || told(t, s, l[:1], everything, withNone(resp{Version: 1, Resources: l[:1]}, delta), withNoneSent(l[:1], delta)).Topics[1].Due {
			t.Error("another Due")
		}
	}
	s := wants(t, true, some(41)...)
	s = told(t, s, l, everything, resp{Version: 41, Resources: l[:40], More: true}, sentOf(l[:40]))
	if !s.Topics[1].Due {
		t.Error("it is not Due with More")
	}
	s = told(t, s, l, everything, resp{Version: 41, Resources: l[40:]}, sentOf(l))
	if s.Topics[1].Due {
		t.Error("it is Due")
	}
}

// withNone is r, of Delta with n1040 as removed; withNoneSent is what was sent then.
func withNone(r resp, delta bool) resp {
	if delta {
		r.Removed = texts{"n1040"}
	}
	return r
}

func withNoneSent(l list, delta bool) haves {
	if delta {
		return sentOf(l, "n1040")
	}
	return sentOf(l)
}

// P11.2: Nonces rise by one, each type's by themselves, up to 2^62.
func TestNextNonces(t *testing.T) {
	for _, delta := range []bool{false, true} {
		s := wants(t, delta, "a")
		for n := uint64(1); n < 50; n++ {
			l := list{of(1, "a", n)}
			s = told(t, s, l, everything, resp{Version: n, Resources: l}, sentOf(l))
			if s.Topics[1].Last != n || s.Topics[1].Open != 0 {
				t.Fatalf("%d: %s", n, short(s.Topics[1]))
			}
		}
		l := each("a")
		for last, ok := range map[uint64]bool{1<<62 - 2: true, 1<<62 - 1: true, 1 << 62: false, 1<<62 + 1: false, 1 << 63: false, math.MaxUint64: false} {
			s := srv{Begun: true, Delta: delta}
			s.Topics[1] = topic{Want: set("a"), Asked: true, Last: last, Due: true}
			if !ok {
				none(t, s, l, everything)
				continue
			}
			next(t, s, l, everything, resp{Version: 1, Resources: l}, sentOf(l))
		}
	}
}

// P11.2: however great a batch is, it is a message that is not too long.
func TestResponsesFit(t *testing.T) {
	var l list
	var want texts
	for _, name := range some(120) {
		name += strings.Repeat("z", 64-len(name))
		r := of(1, name, 1<<62)
		r.Body = strings.Repeat("x", api.MaxBody)
		l, want = append(l, r), append(want, name)
	}
	s := asked(t, wants(t, true, want[:60]...), req{Delta: true, Sub: want[60:]})
	s.Topics[1].Last = 1<<62 - 1
	_, r, ok := s.Next(1, l[:60], everything)
	if b, put := message.PutResp(r); !ok || !put || len(b) > api.MaxFrame || len(r.Resources) != 40 || len(r.Removed) != 40 {
		t.Errorf("%d bytes, %d, %d", len(b), len(r.Resources), len(r.Removed))
	}
}
