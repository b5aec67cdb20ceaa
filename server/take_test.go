package server_test

import (
	"math"
	"slices"
	"strings"
	"testing"

	"noria/api"
)

// P11.1: what is not right is ErrArg, ahead of all else.
func TestTakeNotRight(t *testing.T) {
	for _, delta := range []bool{false, true} {
		open, _, _ := wants(t, delta, "a").Next(1, each("a"), everything)
		for _, s := range []srv{{}, wants(t, delta, "a"), open} {
			for _, kind := range noTypes {
				refused(t, s, req{Type: kind, Delta: delta, Sub: texts{"a"}}, api.ErrArg)
				refused(t, s, req{Type: kind, Delta: !delta, Nonce: 9}, api.ErrArg)
			}
			for _, r := range []req{
				{Sub: some(65)},
				{Sub: texts{"A"}},
				{Sub: texts{""}},
				{Sub: texts{"a", longName + "z"}},
				{Detail: "x"},
				{Nonce: 1, Detail: longDetail + "d"},
				{Nonce: 9, Detail: longDetail + "d"},
				{Delta: true, Unsub: some(65)},
				{Delta: true, Unsub: texts{"a b"}},
				{Delta: true, Have: haves{had("*", 1)}},
				{Delta: true, Have: make(haves, 65)},
				{Unsub: texts{"a"}},
				{Have: haves{had("a", 1)}},
			} {
				r.Type = 1
				refused(t, s, r, api.ErrArg)
			}
		}
	}
}

// P11.1: ErrOrder, of another Delta once it has begun, whatever the type; ahead of ErrStale.
func TestTakeAnotherDelta(t *testing.T) {
	for _, delta := range []bool{false, true} {
		s := wants(t, delta, "a")
		open, _, _ := s.Next(1, each("a"), everything)
		for _, s := range []srv{s, open, answered(t, open)} {
			for kind := 1; kind <= api.Types; kind++ {
				refused(t, s, req{Type: kind, Delta: !delta, Sub: texts{"a"}}, api.ErrOrder)
			}
			refused(t, s, req{Type: 1, Delta: !delta, Nonce: 1}, api.ErrOrder)
		}
		asked(t, srv{}, req{Delta: delta})
	}
}

// P11.1: ErrOrder, if Nonce is above Last, of its own topic, also where nothing was asked; ahead of ErrStale.
func TestTakeNonceAboveLast(t *testing.T) {
	for _, delta := range []bool{false, true} {
		s := wants(t, delta, "a")
		open, _, _ := s.Next(1, each("a"), everything)
		for _, n := range []uint64{1, 2, 1 << 62, math.MaxUint64} {
			refused(t, srv{}, req{Type: 1, Delta: delta, Nonce: n, Sub: texts{"a"}}, api.ErrOrder)
			refused(t, s, req{Type: 1, Delta: delta, Nonce: n, Sub: texts{"a"}}, api.ErrOrder)
			refused(t, open, req{Type: 2, Delta: delta, Nonce: n, Sub: texts{"a"}}, api.ErrOrder)
			refused(t, open, req{Type: 1, Delta: delta, Nonce: n + min(1, math.MaxUint64-n)}, api.ErrOrder)
			refused(t, answered(t, open), req{Type: 1, Delta: delta, Nonce: n + min(1, math.MaxUint64-n)}, api.ErrOrder)
		}
	}
}

// P11.1: of a whole stream what is wanted is what each request says, all of it.
func TestTakeWhole(t *testing.T) {
	s := take(t, srv{}, req{Type: 1, Sub: texts{"b", "a", "b"}}, event{Changed: true}, topic{Want: set("a", "b"), Asked: true, Due: true})
	s = take(t, s, req{Type: 1, Sub: texts{"c", "*"}}, event{Changed: true}, topic{Want: set("*", "c"), Asked: true, Due: true})
	s = take(t, s, req{Type: 1, Sub: texts{"c"}}, event{Changed: true}, topic{Want: set("c"), Asked: true, Due: true})
	s = take(t, s, req{Type: 1, Sub: texts{"c", "c"}}, event{}, topic{Want: set("c"), Asked: true, Due: true})
	s = take(t, s, req{Type: 5}, event{Changed: true}, topic{Asked: true, Due: true})
	s = take(t, s, req{Type: 5}, event{}, topic{Asked: true, Due: true})
	take(t, s, req{Type: 1, Sub: some(64)}, event{Changed: true}, topic{Want: set(some(64)...), Asked: true, Due: true})
}

// P11.1: of a whole stream what is sent stays so, as far as it is wanted, by name or with all; Have counts for nothing there.
func TestTakeWholeKeepsSent(t *testing.T) {
	l := each("a", "b", "c", longName)
	s := told(t, wants(t, false, "a", "b", "c", longName), l, everything, resp{Version: 4, Resources: l}, sentOf(l))
	for _, x := range []struct {
		sub  texts
		sent haves
	}{
		{texts{"*"}, sentOf(l)},
		{texts{"*", "a"}, sentOf(l)},
		{texts{"c", "b", "d"}, sentOf(l[1:3])},
		{texts{longName}, sentOf(l[3:])},
		{texts{"d"}, nil},
		{nil, nil},
	} {
		take(t, s, req{Type: 1, Nonce: 1, Sub: x.sub}, event{Changed: true}, topic{Want: set(x.sub...), Asked: true, Last: 1, Due: true, Sent: x.sent})
	}
}

// P11.1: what is answered is not open any more; told is Detail, and what was sent, as it was ahead of what the request asks for.
func TestTakeAnswered(t *testing.T) {
	l := each("a", "b")
	for _, delta := range []bool{false, true} {
		for _, detail := range []string{"", "why", longDetail, "\x00\xff"} {
			s := next(t, wants(t, delta, "a", "b"), l, everything, resp{Version: 2, Resources: l}, sentOf(l))
			r := req{Type: 1, Delta: delta, Nonce: 1, Sub: texts{"a", "b"}, Detail: detail}
			e := event{Answered: true, Detail: detail, Sent: sentOf(l)}
			x := topic{Want: set("a", "b"), Asked: true, Last: 1, Sent: sentOf(l)}
			one := take(t, s, r, e, x)
			// once more it answers nothing, and stands there as a request
			take(t, one, r, event{}, x)
			// it may ask for something else, too
			r.Sub = texts{"b"}
			if delta {
				r.Sub, r.Unsub = nil, texts{"a"}
			}
			e.Changed = true
			take(t, s, r, e, topic{Want: set("b"), Asked: true, Last: 1, Due: true, Sent: sentOf(l)[1:]})
		}
	}
}

// P11.1: of Delta what is answered may be asked anew in one: told is what was sent till then.
func TestTakeAnsweredAndAnew(t *testing.T) {
	l := each("a", "b")
	s := next(t, wants(t, true, "*"), l, everything, resp{Version: 2, Resources: l}, sentOf(l))
	r := req{Type: 1, Delta: true, Nonce: 1, Sub: texts{"a"}}
	take(t, s, r, event{Answered: true, Changed: true, Sent: sentOf(l)}, topic{Want: set("*", "a"), Asked: true, Last: 1, Due: true, Sent: sentOf(l)[1:]})
}

// P11.1: a whole stream's request that has not the last Nonce is stale, answered or not; nothing is done.
func TestTakeStale(t *testing.T) {
	s := wants(t, false, "a")
	for n := uint64(1); n <= 3; n++ {
		l := list{of(1, "a", n)}
		s = next(t, s, l, everything, resp{Version: n, Resources: l}, sentOf(l))
		for old := range n {
			refused(t, s, req{Type: 1, Nonce: old, Sub: texts{"b"}}, api.ErrStale)
		}
		s = answered(t, s)
		for old := range n {
			refused(t, s, req{Type: 1, Nonce: old, Sub: texts{"b"}}, api.ErrStale)
		}
	}
	refused(t, s, req{Type: 1, Nonce: 2, Detail: "why"}, api.ErrStale)
	// what was answered already asks all the same; of another type nothing was sent
	take(t, s, req{Type: 1, Nonce: 3, Sub: texts{"a", "b"}, Detail: "why"}, event{Changed: true}, topic{Want: set("a", "b"), Asked: true, Last: 3, Due: true, Sent: haves{had("a", 3)}})
	take(t, s, req{Type: 2, Sub: texts{"a"}}, event{Changed: true}, topic{Want: set("a"), Asked: true, Due: true})
}

// P11.1: of Delta nothing is stale: a request with an old Nonce, or none, asks, and answers nothing.
func TestTakeDeltaIsNotStale(t *testing.T) {
	l := each("a")
	s := told(t, wants(t, true, "a"), l, everything, resp{Version: 1, Resources: l}, sentOf(l))
	l = list{of(1, "a", 7)}
	s = next(t, s, l, everything, resp{Version: 7, Resources: l}, sentOf(l))
	x := topic{Want: set("a", "b"), Asked: true, Last: 2, Open: 2, Due: true, Sent: sentOf(l)}
	for n := range uint64(2) {
		take(t, s, req{Type: 1, Delta: true, Nonce: n, Sub: texts{"b"}}, event{Changed: true}, x)
	}
	refused(t, s, req{Type: 1, Delta: true, Nonce: 3, Sub: texts{"b"}}, api.ErrOrder)
	x.Open = 0
	take(t, s, req{Type: 1, Delta: true, Nonce: 2, Sub: texts{"b"}}, event{Answered: true, Changed: true, Sent: sentOf(l)}, x)
}

// P11.1: of Delta Sub is wanted more, and then Unsub less.
func TestTakeDelta(t *testing.T) {
	for _, x := range []struct {
		ahead, sub, unsub, after texts
	}{
		{nil, texts{"b", "a", "b"}, nil, texts{"a", "b"}},
		{texts{"a"}, texts{"b"}, nil, texts{"a", "b"}},
		{texts{"a", "b"}, nil, texts{"a"}, texts{"b"}},
		{texts{"a", "b"}, texts{"c"}, texts{"a", "d"}, texts{"b", "c"}},
		{texts{"a"}, texts{"b", "c"}, texts{"b"}, texts{"a", "c"}},
		{texts{"a"}, texts{"a"}, texts{"a"}, nil},
		{texts{"a"}, texts{"*"}, nil, texts{"*", "a"}},
		{texts{"*", "a"}, texts{"b"}, texts{"*"}, texts{"a", "b"}},
		{texts{"*"}, nil, texts{"a"}, texts{"*"}},
		{texts{"*"}, texts{"*", "a"}, texts{"*"}, texts{"a"}},
		{some(64), some(128)[64:], nil, some(128)},
		{some(64), texts{"*"}, some(64), texts{"*"}},
	} {
		s := wants(t, true, x.ahead...)
		changed := !slices.Equal(x.after, x.ahead)
		take(t, s, req{Type: 1, Delta: true, Sub: x.sub, Unsub: x.unsub}, event{Changed: changed}, topic{Want: set(x.after...), Asked: true, Due: true})
		take(t, s, req{Type: 2, Delta: true, Sub: x.sub, Unsub: x.unsub}, event{Changed: true}, topic{Want: set(x.sub...).Drop(x.unsub), Asked: true, Due: true})
	}
}

// P11.1: of Delta what is sent stays so, as far as it is wanted, but for names that are asked for anew, not those that were wanted by name ahead.
func TestTakeDeltaKeepsSent(t *testing.T) {
	l := each("a", "b", "c")
	for _, x := range []struct {
		ahead, sub, unsub texts
		left              texts
	}{
		{texts{"*"}, texts{"d"}, nil, texts{"a", "b", "c"}},
		{texts{"*"}, texts{"b"}, nil, texts{"a", "c"}},
		{texts{"*"}, texts{"b", "a", "*"}, nil, texts{"c"}},
		{texts{"*"}, texts{"b"}, texts{"b"}, texts{"a", "c"}},
		{texts{"*"}, texts{"b", "c"}, texts{"*"}, nil},
		{texts{"*", "b"}, texts{"b"}, texts{"*"}, texts{"b"}},
		{texts{"*", "b"}, texts{"d"}, texts{"b"}, texts{"a", "b", "c"}},
		{texts{"a", "b", "c"}, texts{"b", "d"}, texts{"a"}, texts{"b", "c"}},
		{texts{"a", "b", "c"}, texts{"*"}, texts{"a", "b", "c"}, texts{"a", "b", "c"}},
		{texts{"a", "b", "c"}, texts{"b"}, texts{"b"}, texts{"a", "c"}},
	} {
		s := told(t, wants(t, true, x.ahead...), l, everything, resp{Version: 3, Resources: l}, sentOf(l))
		var sent haves
		for _, h := range sentOf(l) {
			if slices.Contains(x.left, h.Name) {
				sent = append(sent, h)
			}
		}
		want := set(x.ahead...).Add(x.sub).Drop(x.unsub)
		r := req{Type: 1, Delta: true, Sub: x.sub, Unsub: x.unsub}
		if got := asked(t, s, r).Topics[1]; !slices.Equal(got.Sent, sent) || !slices.Equal(got.Want.List(), want.List()) {
			t.Errorf("%q, then %v: %+v, want %v", x.ahead, r, got, sent)
		}
	}
}

// P11.1: what is not wanted any more, and is asked for again, is to be told again; also that there is none.
func TestTakeDeltaAgain(t *testing.T) {
	l := each("a")
	s := told(t, wants(t, true, "a", "b"), l, everything, resp{Version: 1, Resources: l, Removed: texts{"b"}}, sentOf(l, "b"))
	s = asked(t, s, req{Delta: true, Unsub: texts{"a", "b"}})
	none(t, s, l, everything)
	s = asked(t, s, req{Delta: true, Sub: texts{"a", "b"}})
	told(t, s, l, everything, resp{Version: 1, Resources: l, Removed: texts{"b"}}, sentOf(l, "b"))
}

// P11.1: what a first request of Delta has already counts as sent, as far as it is wanted; of a name the first, with any Seq.
func TestTakeHave(t *testing.T) {
	h := haves{had("c", 3), had("b", 0), had("x", 9), had("b", math.MaxUint64), had("a", 1), had("c", 4)}
	for _, x := range []struct {
		sub, unsub texts
		sent       haves
	}{
		{texts{"a", "b", "c"}, nil, haves{had("a", 1), had("b", 0), had("c", 3)}},
		{texts{"*"}, nil, haves{had("a", 1), had("b", 0), had("c", 3), had("x", 9)}},
		{texts{"*", "a", "d"}, nil, haves{had("a", 1), had("b", 0), had("c", 3), had("x", 9)}},
		{texts{"a", "b", "c"}, texts{"b", "c"}, haves{had("a", 1)}},
		{texts{"d"}, nil, nil},
		{nil, nil, nil},
	} {
		want := set(x.sub...).Drop(x.unsub)
		r := req{Type: 1, Delta: true, Sub: x.sub, Unsub: x.unsub, Have: h}
		s := take(t, srv{}, r, event{Changed: true}, topic{Want: want, Asked: true, Due: true, Sent: x.sent})
		// of another topic nothing was asked yet
		r.Type = 3
		s = take(t, s, r, event{Changed: true}, topic{Want: want, Asked: true, Due: true, Sent: x.sent})
		// the second time it counts for nothing
		r = req{Type: 1, Delta: true, Sub: texts{"x", "e"}, Have: append(slices.Clone(h), had("e", 5))}
		if got := asked(t, s, r).Topics[1].Sent; slices.Contains(got, had("e", 5)) || slices.Contains(got, had("x", 9)) {
			t.Errorf("%v, then %v: %v is sent", x.sub, r, got)
		}
	}
	var many haves
	for _, name := range some(64) {
		many = append(many, had(name, 2))
	}
	take(t, srv{}, req{Type: 1, Delta: true, Sub: texts{"*"}, Have: many}, event{Changed: true}, topic{Want: everything, Asked: true, Due: true, Sent: many})
}

// P11.1: what is sent stays ahead of what is had already, where a topic was written down by hand.
func TestTakeHaveBehindSent(t *testing.T) {
	s := srv{Begun: true, Delta: true}
	s.Topics[1] = topic{Want: set("a", "b"), Sent: haves{had("a", 5), had("c", 6)}}
	r := req{Type: 1, Delta: true, Sub: texts{"d"}, Have: haves{had("d", 1), had("a", 2), had("c", 3)}}
	take(t, s, r, event{Changed: true}, topic{Want: set("a", "b", "d"), Asked: true, Due: true, Sent: haves{had("a", 5), had("d", 1)}})
}

// P11.1: it is Due once what is wanted turned, or was asked for the first time, and stays so till something is told.
func TestTakeDue(t *testing.T) {
	for _, delta := range []bool{false, true} {
		first := take(t, srv{}, req{Type: 1, Delta: delta}, event{Changed: true}, topic{Asked: true, Due: true})
		take(t, first, req{Type: 1, Delta: delta}, event{}, topic{Asked: true, Due: true})
		s := wants(t, delta, "a", "b")
		l := each("a", "b")
		s = told(t, s, l, everything, resp{Version: 2, Resources: l}, sentOf(l))
		x := topic{Want: set("a", "b"), Asked: true, Last: 1, Sent: sentOf(l)}
		s = take(t, s, req{Type: 1, Delta: delta, Nonce: 1, Sub: texts{"b", "a"}}, event{}, x)
		x.Want, x.Due = set("*", "a", "b"), true
		s = take(t, s, req{Type: 1, Delta: delta, Nonce: 1, Sub: texts{"b", "a", "*"}}, event{Changed: true}, x)
		// turned back it is Due all the same
		x.Want = set("a", "b")
		r := req{Type: 1, Delta: delta, Nonce: 1, Sub: texts{"b", "a"}}
		if delta {
			r.Unsub = texts{"*"}
		}
		s = take(t, s, r, event{Changed: true}, x)
		r.Unsub = nil
		take(t, s, r, event{}, x)
	}
}

// P11.1: what is open is answered ahead of what is stale, where a topic was written down by hand; 0 answers nothing.
func TestTakeAnsweredByHand(t *testing.T) {
	s := srv{Begun: true}
	s.Topics[1] = topic{Want: set("a"), Asked: true, Last: 5, Open: 3}
	take(t, s, req{Type: 1, Nonce: 3, Sub: texts{"a"}}, event{Answered: true}, topic{Want: set("a"), Asked: true, Last: 5})
	take(t, s, req{Type: 1, Nonce: 5, Sub: texts{"a"}}, event{}, s.Topics[1])
	refused(t, s, req{Type: 1, Nonce: 4, Sub: texts{"a"}}, api.ErrStale)
	s.Topics[1].Open = 0
	refused(t, s, req{Type: 1, Sub: texts{"a"}}, api.ErrStale)
}

// P11.1: a request of one type leaves those of others.
func TestTakeOtherTypes(t *testing.T) {
	for _, delta := range []bool{false, true} {
		s := srv{}
		for kind := 1; kind <= api.Types; kind++ {
			name := strings.Repeat("a", kind)
			s = take(t, s, req{Type: kind, Delta: delta, Sub: texts{name}}, event{Changed: true}, topic{Want: set(name), Asked: true, Due: true})
		}
		after, r, ok := s.Next(3, list{of(3, "aaa", 7), of(2, "aa", 1)}, everything)
		if !ok || r.Type != 3 || r.Nonce != 1 || len(r.Resources) != 1 || after.Topics[2].Last != 0 {
			t.Errorf("%+v, %v", r, ok)
		}
		refused(t, after, req{Type: 2, Delta: delta, Nonce: 1}, api.ErrOrder)
	}
}
