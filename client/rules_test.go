package client_test

import (
	"math"
	"runtime"
	"slices"
	"strconv"
	"strings"
	"testing"

	"noria/api"
	"noria/client"
	"noria/names"
)

// scribble writes over a list, with its spare room.
func scribble[T any](l []T, x T) {
	l = l[:cap(l)]
	for i := range l {
		l[i] = x
	}
}

// clone is a Client that shares nothing with c.
func clone(c client.Client) client.Client {
	for i := range c.Topics {
		c.Topics[i].Want.Names = slices.Clone(c.Topics[i].Want.Names)
	}
	return c
}

// P3: Ask writes into nothing that is handed in, nor behind it, takes nothing from there, and keeps none of it.
func TestAskKeepsNothing(t *testing.T) {
	for _, delta := range []bool{false, true} {
		array := texts{"c", "a", "A", "c", "behind", "x"}
		haves := []have{had("c", 1), had("x", 2), had("a", 3), had("b", 4), had("c", 5)}
		before, hbefore := slices.Clone(array), slices.Clone(haves)
		one, r, errno := client.New(delta).Ask(1, names.Set{Names: array[:4]}, haves[:3])
		if !slices.Equal(array, before) || !slices.Equal(haves, hbefore) || errno != api.OK {
			t.Errorf("%q became %q, %v became %v, %d", before, array, hbefore, haves, errno)
		}
		want := req{Type: 1, Delta: delta, Sub: texts{"a", "c"}}
		if delta {
			want.Have = []have{had("c", 1), had("a", 3)}
		}
		scribble(array, "scribbled")
		scribble(haves, had("scribbled", 9))
		wanted := client.New(delta)
		wanted.Topics[1] = client.Topic{Want: set("a", "c"), Open: true}
		if !sameReq(r, want) || !sameClient(one, wanted) {
			t.Errorf("%+v, want %+v; the Client is %v", r, want, one)
		}
	}
}

// P3: of Ask's request and Answer's no list is one of the Client's, or another one's, with its spare room.
func TestRequestsAreNew(t *testing.T) {
	for _, delta := range []bool{false, true} {
		haves := []have{had("a", 1), had("b", 2), had("e", 3)}
		c, r, _ := client.New(delta).Ask(1, set("a", "b", "c", "d", "e"), haves)
		before, hbefore := clone(c), slices.Clone(haves)
		for range 2 {
			same, again, _ := client.New(delta).Ask(1, set("a", "b", "c", "d", "e"), haves)
			if !sameReq(r, again) || !sameClient(same, c) {
				t.Fatalf("%v, then %v", r, again)
			}
			spoil(again)
		}
		spoil(r)
		if !sameClient(c, before) || !slices.Equal(haves, hbefore) {
			t.Errorf("the Client became %v, and %v became %v", c, hbefore, haves)
		}
		turned, r, _ := c.Ask(1, set("b", "f", "g", "h"), nil)
		before = clone(turned)
		spoil(r)
		turned, _ = turned.Take(resp{Type: 1, Delta: delta, Nonce: 1})
		one, _ := turned.Answer(1, "why")
		other, _ := turned.Answer(1, "why")
		want := req{Type: 1, Delta: delta, Nonce: 1, Detail: "why"}
		if !delta {
			want.Sub = texts{"b", "f", "g", "h"}
		}
		spoil(one)
		before.Topics[1].Nonce = 1
		if !sameReq(other, want) || !sameClient(turned, before) {
			t.Errorf("%+v, want %+v; the Client became %v", other, want, turned)
		}
	}
}

// spoil writes over all lists of a request, one after the other: those that share would show it.
func spoil(r req) {
	scribble(r.Sub, "sub")
	scribble(r.Unsub, "unsub")
	scribble(r.Have, had("have", 9))
}

// P3: no two lists of one request share any.
func TestListsOfARequest(t *testing.T) {
	c := asked(t, client.New(true), 1, "a", "b", "c")
	_, r, _ := c.Ask(1, set("c", "d", "e"), nil)
	scribble(r.Sub, "sub")
	if !slices.Equal(r.Unsub, texts{"a", "b"}) {
		t.Errorf("Unsub became %q", r.Unsub)
	}
}

// P3: Clients that others came from stay, whatever those do, and however many come from one.
func TestClientsStay(t *testing.T) {
	for _, delta := range []bool{false, true} {
		c := client.New(delta)
		var all, before []client.Client
		keep := func(c client.Client) client.Client {
			all, before = append(all, c), append(before, clone(c))
			return c
		}
		keep(c)
		for i := range 60 {
			l := texts{"a", "b" + strconv.Itoa(i), "c" + strconv.Itoa(i%7), "d"}[:1+i%4]
			next := keep(asked(t, all[i*7%len(all)], 1+i%5, append(l, strconv.Itoa(i))...))
			other, errno := next.Take(resp{Type: 1 + i%5, Delta: delta, Nonce: uint64(i) + 1})
			if errno != api.OK {
				t.Fatal(errno)
			}
			keep(other)
		}
		for i := range all {
			if !sameClient(all[i], before[i]) {
				t.Errorf("%v became %v", before[i], all[i])
			}
		}
	}
}

// P3: Take and Has write into no response, and Has tells a new list.
func TestResponsesStay(t *testing.T) {
	c := asked(t, client.New(false), 1, "a", "b")
	array := list{of(1, "b", 1), of(1, "c", 2), of(1, "a", 3), of(1, "a", 4)}
	before := slices.Clone(array)
	r := resp{Type: 1, Nonce: 1, Resources: array[:3]}
	take(t, c, r, api.OK)
	one, two := client.Has(c, r), client.Has(c, r)
	scribble(one, of(1, "scribbled", 9))
	if !slices.Equal(array, before) || !slices.Equal(two, list{array[0], array[2]}) {
		t.Errorf("%v became %v; told is %v", before, array, two)
	}
	scribble(array, of(1, "scribbled", 9))
	if !slices.Equal(two, list{before[0], before[2]}) {
		t.Errorf("told is %v", two)
	}
}

// P1, P2, P6: at all arguments there is an answer; with an error the Client is as it was, and there is no request.
func TestEveryCallEnds(t *testing.T) {
	kinds := append([]int{1, 2, 3, 4, 5}, noTypes...)
	odd := []names.Set{{}, set("*"), {Names: texts{""}}, {All: true, Names: texts{"*", "*"}}, set(some(70)...), {Names: make(texts, 1000)}, {Names: texts{strings.Repeat("x", 1<<20)}}}
	for _, delta := range []bool{false, true} {
		open := take(t, asked(t, client.New(delta), 1, "a"), resp{Type: 1, Delta: delta, Nonce: 1}, api.OK)
		for _, c := range []client.Client{client.New(delta), open} {
			before := clone(c)
			for _, kind := range kinds {
				for _, want := range odd {
					for _, h := range [][]have{nil, {{}}, make([]have, 64), make([]have, 65)} {
						after, r, errno := c.Ask(kind, want, h)
						if errno != api.OK && (!sameClient(after, before) || !sameReq(r, req{})) {
							t.Errorf("Ask(%d, %.40q) = %+v, %d", kind, want.List(), r, errno)
						}
					}
				}
				for _, detail := range []string{"", "\x00", strings.Repeat("x", 1<<20)} {
					if r, errno := c.Answer(kind, detail); errno != api.OK && !sameReq(r, req{}) {
						t.Errorf("Answer(%d, %.40q) = %+v, %d", kind, detail, r, errno)
					}
				}
				for _, n := range []uint64{0, 1, 2, math.MaxUint64} {
					r := resp{Type: kind, Delta: delta, Nonce: n, Resources: make(list, 3)}
					client.Has(c, r)
					take(t, c, r, api.ErrArg)
				}
			}
			if !sameClient(c, before) {
				t.Errorf("%v became %v", before, c)
			}
		}
	}
}

// Many names that are refused cost room as they grow, not as their square.
func TestManyNamesCostLittle(t *testing.T) {
	var before, after runtime.MemStats
	const n = 30000
	var l texts
	var h []have
	for i := range n {
		l = append(l, strconv.Itoa(i*7919%n))
		h = append(h, had(l[i], 1))
	}
	want := names.Set{Names: l}
	runtime.ReadMemStats(&before)
	for _, delta := range []bool{false, true} {
		c := asked(t, client.New(delta), 1, some(64)...)
		ask(t, c, 1, want, h, api.ErrFull, req{})
		ask(t, c, 1, set("*"), h, api.ErrFull, req{})
		ask(t, c, 9, want, h, api.ErrArg, req{})
	}
	runtime.ReadMemStats(&after)
	if room := after.TotalAlloc - before.TotalAlloc; room > 1<<27 {
		t.Errorf("%d bytes were asked for", room)
	}
}

// P4: the same is answered to the same, and calls at one time don't meet one another, also of one Client.
func TestSameAnswers(t *testing.T) {
	c := take(t, asked(t, client.New(true), 1, some(60)...), resp{Type: 1, Delta: true, Nonce: 7}, api.OK)
	want := set(append(some(90)[30:], "*")...)
	wanted, r, _ := c.Ask(1, want, nil)
	done := make(chan bool)
	for range 8 {
		go func() {
			same := true
			for range 50 {
				after, again, errno := c.Ask(1, want, nil)
				other, e := after.Take(resp{Type: 1, Delta: true, Nonce: 9})
				ok, _ := other.Answer(1, "")
				same = same && sameClient(after, wanted) && sameReq(again, r) && errno == api.OK && e == api.OK && ok.Nonce == 9
			}
			done <- same
		}()
	}
	for range 8 {
		if !<-done {
			t.Error("another answer")
		}
	}
}
