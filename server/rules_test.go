package server_test

import (
	"math"
	"runtime"
	"slices"
	"strconv"
	"strings"
	"testing"

	"noria/api"
	"noria/names"
)

// scribble writes over a list, with its spare room.
func scribble[T any](l []T, x T) {
	l = l[:cap(l)]
	for i := range l {
		l[i] = x
	}
}

// spoil writes over all lists of a response, one after the other: those that share would show it.
func spoil(r resp) {
	scribble(r.Resources, of(1, "scribbled", 9))
	scribble(r.Removed, "scribbled")
}

// clone is a Server that shares nothing with s.
func clone(s srv) srv {
	for i := range s.Topics {
		x := &s.Topics[i]
		x.Want.Names, x.Sent = slices.Clone(x.Want.Names), slices.Clone(x.Sent)
	}
	return s
}

// cloneResp shares nothing with r.
func cloneResp(r resp) resp {
	r.Resources, r.Removed = slices.Clone(r.Resources), slices.Clone(r.Removed)
	return r
}

// P3: Take writes into nothing that is handed in, nor behind it, takes nothing from there, and keeps none of it.
func TestTakeKeepsNothing(t *testing.T) {
	for _, delta := range []bool{false, true} {
		sub, unsub := texts{"c", "a", "c", "behind", "x"}, texts{"d", "c", "behind", "x"}
		h := haves{had("c", 1), had("a", 2), had("a", 3), had("behind", 4), had("x", 5)}
		r := req{Type: 1, Delta: delta, Sub: sub[:3]}
		want := topic{Want: set("a", "c"), Asked: true, Due: true}
		if delta {
			r.Unsub, r.Have = unsub[:2], h[:3]
			want.Want, want.Sent = set("a"), haves{had("a", 2)}
		}
		subs, unsubs, hs := slices.Clone(sub), slices.Clone(unsub), slices.Clone(h)
		s := take(t, srv{}, r, event{Changed: true}, want)
		if !slices.Equal(sub, subs) || !slices.Equal(unsub, unsubs) || !slices.Equal(h, hs) {
			t.Errorf("%q became %q, %q became %q, %v became %v", subs, sub, unsubs, unsub, hs, h)
		}
		scribble(sub, "scribbled")
		scribble(unsub, "scribbled")
		scribble(h, had("scribbled", 9))
		if !sameTopic(s.Topics[1], want) {
			t.Errorf("it keeps what was handed in: %s", short(s))
		}
	}
}

// P3: Next writes into nothing that is handed in, nor behind it, takes nothing from there, and keeps none of it; known, too.
func TestNextKeepsNothing(t *testing.T) {
	for _, delta := range []bool{false, true} {
		array := list{of(1, "c", 4), of(1, "a", 2), of(1, "c", 3), of(1, "b", 9), of(1, "b", 8)}
		k := texts{"c", "b", "a", "b", "d", "x"}
		before, ks := slices.Clone(array), slices.Clone(k)
		s := wants(t, delta, "a", "b", "c")
		r, sent := resp{Version: 4, Resources: list{array[1], array[0]}}, haves{had("a", 2), had("c", 4)}
		if delta {
			r.Removed, sent = texts{"b"}, haves{had("a", 2), had("b", 0), had("c", 4)}
		}
		after := next(t, s, array[:3], names.Set{Names: k[:4]}, r, sent)
		_, got, _ := s.Next(1, array[:3], names.Set{Names: k[:4]})
		if !slices.Equal(array, before) || !slices.Equal(k, ks) {
			t.Errorf("%v became %v, %q became %q", before, array, ks, k)
		}
		scribble(array, of(1, "scribbled", 9))
		scribble(k, "scribbled")
		r.Type, r.Delta, r.Nonce = 1, delta, 1
		if !slices.Equal(after.Topics[1].Sent, sent) || !sameResp(got, r) {
			t.Errorf("it keeps what was handed in: %s, %s", short(after), short(got))
		}
	}
}

// P3: what Take and Next tell is new, with its spare room, and none of it is the Server's.
func TestAnswersAreNew(t *testing.T) {
	l := each("a", "b", "c", "d", "e", "f", "g")
	for _, delta := range []bool{false, true} {
		s := wants(t, delta, "a", "b", "c", "d", "e", "x", "y", "z")
		for n := 5; n > 0; n-- {
			before, array := clone(s), slices.Clone(l)
			after, r, ok := s.Next(1, l[:n], everything)
			same, again, _ := s.Next(1, l[:n], everything)
			want, wanted := cloneResp(r), clone(after)
			spoil(r)
			if !ok || !sameResp(again, want) || !sameServer(after, wanted) || !sameServer(same, wanted) || !sameServer(s, before) || !slices.Equal(l, array) {
				t.Fatalf("%s, want %s; %s, want %s", short(again), short(want), short(after), short(wanted))
			}
			q := req{Type: 1, Delta: delta, Nonce: after.Topics[1].Open, Sub: s.Topics[1].Want.List()}
			next, e, _ := after.Take(q)
			_, other, _ := after.Take(q)
			sent := slices.Clone(e.Sent)
			left := clone(next)
			scribble(e.Sent, had("scribbled", 9))
			if !e.Answered || len(sent) < n || !slices.Equal(other.Sent, sent) || !sameServer(after, wanted) || !sameServer(next, left) {
				t.Fatalf("%s, want %v; %s, want %s", short(other), sent, short(next), short(left))
			}
			s = next
		}
	}
}

// P3: of a response no list shares any with another one.
func TestListsOfAResponse(t *testing.T) {
	l := each(some(50)...)
	s := told(t, wants(t, true, some(64)...), l[:40], set(some(40)...), resp{Version: 40, Resources: l[:40]}, sentOf(l[:40]))
	_, r, ok := s.Next(1, l[30:], everything)
	scribble(r.Resources, of(1, "scribbled", 9))
	if !ok || len(r.Resources) != 10 || !slices.Equal(r.Removed, append(some(30), some(64)[50:]...)[:40]) {
		t.Errorf("%v: %s", ok, short(r))
	}
}

// P3: Servers that others came from stay, whatever those do, and however many come from one.
func TestServersStay(t *testing.T) {
	for _, delta := range []bool{false, true} {
		all := []srv{wants(t, delta, "a", "b", "c")}
		before := []srv{clone(all[0])}
		keep := func(s srv) srv {
			all, before = append(all, s), append(before, clone(s))
			return s
		}
		for i := range 300 {
			s := all[i*7%len(all)]
			l := list{of(1, "a", uint64(i)+1), of(1, "b"+strconv.Itoa(i%5), 2), of(1, "c", uint64(i%3)+1)}
			s, _, _ = s.Next(1, l[i%4%3:], everything)
			keep(s)
			r := req{Type: 1, Delta: delta, Nonce: s.Topics[1].Last, Sub: texts{"b" + strconv.Itoa(i%5), "c", "d" + strconv.Itoa(i%9)}}
			if delta && i%2 == 0 {
				r.Unsub = texts{"c", "b" + strconv.Itoa(i%3)}
			}
			keep(asked(t, s, r))
		}
		for i := range all {
			if !sameServer(all[i], before[i]) {
				t.Errorf("%s became %s", short(before[i]), short(all[i]))
			}
		}
	}
}

// P1, P2, P6: at all arguments there is an answer; with an error, or false, the Server is as it was, and nothing is told.
func TestEveryCallEnds(t *testing.T) {
	kinds := append([]int{1, 2, 3, 4, 5}, noTypes...)
	odd := []names.Set{{}, everything, {Names: texts{""}}, {All: true, Names: texts{"*", "*"}}, {Names: make(texts, 1000)}, {Names: texts{strings.Repeat("x", 1<<20), "a"}}}
	lists := []list{nil, make(list, 100), each("", "*", "a", "A", strings.Repeat("x", 1<<20)), slices.Repeat(each("b", "a"), 100), each(some(3000)...)}
	nonces := []uint64{0, 1, 2, 1 << 62, 1 << 63, math.MaxUint64}
	for _, delta := range []bool{false, true} {
		open, _, _ := wants(t, delta, "a").Next(1, each("a"), everything)
		for _, s := range []srv{{}, wants(t, delta, "a"), wants(t, delta, "*", "b"), open, answered(t, open)} {
			before := clone(s)
			for _, kind := range kinds {
				for _, l := range lists {
					for _, known := range odd {
						if after, r, ok := s.Next(kind, l, known); !ok && (!sameServer(after, before) || !sameResp(r, resp{})) {
							t.Errorf("Next(%d, %s) = %s", kind, short(l), short(r))
						}
					}
				}
				for _, n := range nonces {
					for _, x := range []texts{nil, {""}, {"*", "a"}, make(texts, 1000), {strings.Repeat("x", 1<<20)}} {
						r := req{Type: kind, Delta: delta, Nonce: n, Sub: x, Detail: strings.Repeat("x", len(x))}
						if after, e, errno := s.Take(r); errno != api.OK && (!sameServer(after, before) || !sameEvent(e, event{})) {
							t.Errorf("Take(%s) = %s, %d", short(r), short(e), errno)
						}
					}
				}
			}
			if !sameServer(s, before) {
				t.Errorf("%s became %s", short(before), short(s))
			}
		}
	}
}

// Many names, and many resources, cost room as they grow, not as their square.
func TestManyCostLittle(t *testing.T) {
	const n = 20000
	var l list
	var k texts
	for i := range n {
		l = append(l, of(1, strconv.Itoa(i*7919%n), uint64(i)+1))
		k = append(k, l[i].Name)
	}
	var before, after runtime.MemStats
	runtime.ReadMemStats(&before)
	s := wants(t, true, append(some(63), "*")...)
	for range 3 {
		after, r, ok := s.Next(1, l, names.Set{Names: k})
		if !ok || len(r.Resources) != 40 || !r.More || r.Version != n {
			t.Fatalf("%v: %d, %v", ok, len(r.Resources), r.More)
		}
		s = answered(t, after)
	}
	none(t, wants(t, false, "*"), l, everything)
	runtime.ReadMemStats(&after)
	if room := after.TotalAlloc - before.TotalAlloc; room > 1<<27 {
		t.Errorf("%d bytes were asked for", room)
	}
}

// P4: the same is answered to the same, and calls at one time don't meet one another, also of one Server.
func TestSameAnswers(t *testing.T) {
	l := each(some(60)...)
	s := wants(t, true, append(some(64)[40:], "*", "y", "x")...)
	told, r, _ := s.Next(1, l, everything)
	heard, e, _ := told.Take(req{Type: 1, Delta: true, Nonce: 1, Sub: texts{"z"}, Unsub: texts{"*"}})
	done := make(chan bool)
	for range 8 {
		go func() {
			same := true
			for range 50 {
				one, again, ok := s.Next(1, l, everything)
				other, what, errno := told.Take(req{Type: 1, Delta: true, Nonce: 1, Sub: texts{"z"}, Unsub: texts{"*"}})
				same = same && ok && errno == api.OK && sameServer(one, told) && sameResp(again, r) && sameServer(other, heard) && sameEvent(what, e)
			}
			done <- same
		}()
	}
	for range 8 {
		if !<-done {
			t.Error("another answer")
		}
	}
}
