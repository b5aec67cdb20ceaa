package client_test

import (
	"math"
	"slices"
	"strconv"
	"strings"
	"testing"

	"noria/api"
	"noria/client"
	"noria/message"
	"noria/names"
)

type (
	texts = []string
	have  = message.Have
	req   = message.Req
	resp  = message.Resp
	list  = []api.Resource
)

// noTypes are numbers that are no type; some are one in their low bits alone.
var noTypes = []int{0, -1, 6, 7, 1<<8 + 1, 1<<16 + 1, 1<<32 + 1, math.MaxInt, math.MinInt, math.MinInt + 1}

// longName and longDetail are the longest that may be.
var (
	longName   = strings.Repeat("z", 64)
	longDetail = strings.Repeat("d", 256)
)

// some are n names, rising.
func some(n int) texts {
	var l texts
	for i := range n {
		l = append(l, "n"+strconv.Itoa(1000+i))
	}
	return l
}

// had is a name that is there already.
func had(name string, seq uint64) have { return have{Name: name, Seq: seq} }

// set wants what these say.
func set(l ...string) names.Set { return names.Of(l) }

func sameReq(a, b req) bool {
	return a.Type == b.Type && a.Delta == b.Delta && a.Nonce == b.Nonce && a.Detail == b.Detail &&
		slices.Equal(a.Sub, b.Sub) && slices.Equal(a.Unsub, b.Unsub) && slices.Equal(a.Have, b.Have)
}

func sameTopic(a, b client.Topic) bool {
	return a.Open == b.Open && a.Nonce == b.Nonce && a.Want.All == b.Want.All && slices.Equal(a.Want.Names, b.Want.Names)
}

func sameClient(a, b client.Client) bool {
	for i := range a.Topics {
		if !sameTopic(a.Topics[i], b.Topics[i]) {
			return false
		}
	}
	return a.Delta == b.Delta
}

// ask asks, and holds what is told against what is wanted; with an error the Client is as it was. The Client that asked stays.
func ask(t *testing.T, c client.Client, kind int, want names.Set, h []have, errno api.Errno, r req) client.Client {
	t.Helper()
	before := c
	after, got, e := c.Ask(kind, want, h)
	if e != errno || !sameReq(got, r) {
		t.Errorf("Ask(%d, %.80q, %v) = %+v, %d, want %+v, %d", kind, want.List(), h, got, e, r, errno)
	}
	if e == api.OK {
		before.Topics[kind].Want, before.Topics[kind].Open = set(want.List()...), true
	}
	if !sameClient(after, before) {
		t.Errorf("Ask(%d, %.80q, %v): the Client is %.200v, want %.200v", kind, want.List(), h, after, before)
	}
	return after
}

// asked asks where there is nothing to say of the request.
func asked(t *testing.T, c client.Client, kind int, l ...string) client.Client {
	t.Helper()
	after, r, e := c.Ask(kind, set(l...), nil)
	if e != api.OK || !message.RightReq(r) {
		t.Fatalf("Ask(%d, %.80q) = %+v, %d", kind, l, r, e)
	}
	return after
}

// take takes, and holds what is told against what is wanted.
func take(t *testing.T, c client.Client, r resp, errno api.Errno) client.Client {
	t.Helper()
	before := c
	after, e := c.Take(r)
	if e != errno {
		t.Errorf("Take(%.200v) = %d, want %d", r, e, errno)
	}
	if e == api.OK {
		before.Topics[r.Type].Nonce = r.Nonce
	}
	if !sameClient(after, before) {
		t.Errorf("Take(%.200v): the Client is %.200v, want %.200v", r, after, before)
	}
	return after
}

// answer answers, and holds what is told against what is wanted; the Client stays.
func answer(t *testing.T, c client.Client, kind int, detail string, errno api.Errno, r req) {
	t.Helper()
	before := c
	got, e := c.Answer(kind, detail)
	if e != errno || !sameReq(got, r) {
		t.Errorf("Answer(%d, %.80q) = %+v, %d, want %+v, %d", kind, detail, got, e, r, errno)
	}
	if !sameClient(c, before) {
		t.Errorf("Answer(%d, %.80q) turned the Client", kind, detail)
	}
}

// P10.1: New is that Delta, and topics of nothing; the zero value is New of false.
func TestNew(t *testing.T) {
	for _, delta := range []bool{false, true} {
		c := client.New(delta)
		if !sameClient(c, client.Client{Delta: delta}) || c.Delta != delta {
			t.Errorf("New(%v) = %v", delta, c)
		}
		for i, x := range c.Topics {
			if !sameTopic(x, client.Topic{}) {
				t.Errorf("New(%v) has a topic %d: %v", delta, i, x)
			}
		}
	}
}

// P10.1: a whole stream's request says all that is wanted, and has the topic's Nonce.
func TestAskWhole(t *testing.T) {
	c := client.New(false)
	c = ask(t, c, 1, set("b", "a"), []have{had("a", 7)}, api.OK, req{Type: 1, Sub: texts{"a", "b"}})
	c = ask(t, c, 1, set("b", "c"), nil, api.OK, req{Type: 1, Sub: texts{"b", "c"}})
	c = take(t, c, resp{Type: 1, Nonce: 5}, api.OK)
	c = ask(t, c, 1, set("*", "c"), []have{had("c", 7)}, api.OK, req{Type: 1, Nonce: 5, Sub: texts{"*", "c"}})
	c = ask(t, c, 1, set("*"), nil, api.OK, req{Type: 1, Nonce: 5, Sub: texts{"*"}})
	c = take(t, c, resp{Type: 1, Nonce: math.MaxUint64}, api.OK)
	c = ask(t, c, 1, set(), nil, api.OK, req{Type: 1, Nonce: math.MaxUint64})
	c = ask(t, c, 2, set("b"), nil, api.OK, req{Type: 2, Sub: texts{"b"}})
	ask(t, c, 1, set("b"), nil, api.OK, req{Type: 1, Nonce: math.MaxUint64, Sub: texts{"b"}})
}

// P10.1: of Delta a request says what is wanted more, and less, and has no Nonce.
func TestAskDelta(t *testing.T) {
	c := client.New(true)
	c = ask(t, c, 1, set("b", "a"), nil, api.OK, req{Type: 1, Delta: true, Sub: texts{"a", "b"}})
	c = ask(t, c, 1, set("b", "c"), nil, api.OK, req{Type: 1, Delta: true, Sub: texts{"c"}, Unsub: texts{"a"}})
	c = take(t, c, resp{Type: 1, Delta: true, Nonce: 5}, api.OK)
	c = ask(t, c, 1, set("b", "c", "*"), nil, api.OK, req{Type: 1, Delta: true, Sub: texts{"*"}})
	c = ask(t, c, 1, set("*", "d"), nil, api.OK, req{Type: 1, Delta: true, Sub: texts{"d"}, Unsub: texts{"b", "c"}})
	c = ask(t, c, 1, set("*"), nil, api.OK, req{Type: 1, Delta: true, Unsub: texts{"d"}})
	c = ask(t, c, 1, set("d", "a"), nil, api.OK, req{Type: 1, Delta: true, Sub: texts{"a", "d"}, Unsub: texts{"*"}})
	c = ask(t, c, 1, set("*", "a", "e"), nil, api.OK, req{Type: 1, Delta: true, Sub: texts{"*", "e"}, Unsub: texts{"d"}})
	c = ask(t, c, 5, set("d"), nil, api.OK, req{Type: 5, Delta: true, Sub: texts{"d"}})
	c = ask(t, c, 1, set(), nil, api.OK, req{Type: 1, Delta: true, Unsub: texts{"*", "a", "e"}})
	ask(t, c, 1, set("a"), nil, api.OK, req{Type: 1, Delta: true, Sub: texts{"a"}})
}

// P10.1: Have is of Delta, of a first request, of what is wanted, in order, whatever the Seq, and also what is there twice.
func TestAskHave(t *testing.T) {
	h := []have{had("c", 3), had("b", 0), had("x", 9), had("", 1), had("*", 1), had("A", 1), had(longName+"z", 1), had("b", math.MaxUint64), had("a", 1)}
	of := func(l ...int) []have {
		var out []have
		for _, i := range l {
			out = append(out, h[i])
		}
		return out
	}
	for _, c := range []struct {
		want names.Set
		have []have
	}{
		{set("a", "b", "c"), of(0, 1, 7, 8)},
		{set("b"), of(1, 7)},
		{set("*"), of(0, 1, 2, 7, 8)},
		{set("*", "a", "d"), of(0, 1, 2, 7, 8)},
		{set("d"), nil},
		{set(), nil},
	} {
		first := ask(t, client.New(true), 3, c.want, h, api.OK, req{Type: 3, Delta: true, Sub: c.want.List(), Have: c.have})
		ask(t, first, 4, c.want, h, api.OK, req{Type: 4, Delta: true, Sub: c.want.List(), Have: c.have})
		more := c.want.Add(texts{"x"})
		ask(t, first, 3, more, h, api.OK, req{Type: 3, Delta: true, Sub: texts{"x"}})
		ask(t, client.New(false), 3, c.want, h, api.OK, req{Type: 3, Sub: c.want.List()})
	}
	nothing := asked(t, client.New(true), 1)
	ask(t, nothing, 1, set("a"), h, api.OK, req{Type: 1, Delta: true, Sub: texts{"a"}})
}

// P10.1: want is taken as Of of its List: what is no name counts for nothing, the names rise, each once.
func TestAskTakesWantAsOf(t *testing.T) {
	byHand := names.Set{Names: texts{"b", "A", "a", "", "b", "a ", longName + "z", longName}}
	star := names.Set{Names: texts{"b", "*", "b"}}
	for _, delta := range []bool{false, true} {
		c := ask(t, client.New(delta), 1, byHand, []have{had("A", 1)}, api.OK, req{Type: 1, Delta: delta, Sub: texts{"a", "b", longName}})
		ask(t, c, 1, set(longName, "b", "a"), nil, api.ErrNone, req{})
		ask(t, c, 1, byHand, nil, api.ErrNone, req{})
		c = ask(t, client.New(delta), 1, star, nil, api.OK, req{Type: 1, Delta: delta, Sub: texts{"*", "b"}})
		ask(t, c, 1, names.Set{All: true, Names: texts{"b"}}, nil, api.ErrNone, req{})
		// many, but few that are names, each once
		many := names.Set{Names: append(slices.Repeat(texts{"b", "", "A"}, 100), some(63)...)}
		ask(t, client.New(delta), 1, many, nil, api.OK, req{Type: 1, Delta: delta, Sub: append(texts{"b"}, some(63)...)})
	}
}

// P10.1: there are the types 1 to 5 alone.
func TestAskType(t *testing.T) {
	for _, delta := range []bool{false, true} {
		for _, kind := range noTypes {
			ask(t, client.New(delta), kind, set("a"), nil, api.ErrArg, req{})
			ask(t, client.New(delta), kind, set(some(65)...), make([]have, 65), api.ErrArg, req{})
		}
		c := client.New(delta)
		for kind := 1; kind <= api.Types; kind++ {
			c = ask(t, c, kind, set("a"), nil, api.OK, req{Type: kind, Delta: delta, Sub: texts{"a"}})
		}
	}
}

// P10.1: who asks for the same once more is told ErrNone; the first time nothing may be wanted too.
func TestAskTheSame(t *testing.T) {
	for _, delta := range []bool{false, true} {
		for _, l := range []texts{nil, {"a"}, {"*"}, {"*", "a", "b"}, some(64)} {
			c := ask(t, client.New(delta), 2, set(l...), nil, api.OK, req{Type: 2, Delta: delta, Sub: l})
			ask(t, c, 2, set(l...), nil, api.ErrNone, req{})
			ask(t, c, 2, set(l...), make([]have, 65), api.ErrNone, req{})
			c = take(t, c, resp{Type: 2, Delta: delta, Nonce: 1}, api.OK)
			ask(t, c, 2, set(l...), nil, api.ErrNone, req{})
			ask(t, c, 3, set(l...), nil, api.OK, req{Type: 3, Delta: delta, Sub: l})
		}
	}
}

// P10.1: a request has at most 64 names that are wanted, * counts as one, and at most 64 that are there already, wanted or not.
func TestAskFull(t *testing.T) {
	star := func(n int) texts { return append(texts{"*"}, some(n)...) }
	haves := func(n int) []have {
		var l []have
		for _, name := range some(n) {
			l = append(l, had(name, 1))
		}
		return l
	}
	for _, delta := range []bool{false, true} {
		c := client.New(delta)
		for _, l := range []texts{some(64), star(63)} {
			ask(t, c, 1, set(l...), nil, api.OK, req{Type: 1, Delta: delta, Sub: l})
		}
		for _, l := range []texts{some(65), star(64), some(66), star(200), some(3000)} {
			ask(t, c, 1, set(l...), nil, api.ErrFull, req{})
			ask(t, asked(t, c, 1, "a"), 1, set(l...), nil, api.ErrFull, req{})
			// few are wanted more, but many in all
			ask(t, asked(t, c, 1, l[:64]...), 1, set(l...), nil, api.ErrFull, req{})
		}
		ask(t, c, 1, set("a"), haves(64), api.OK, req{Type: 1, Delta: delta, Sub: texts{"a"}})
		ask(t, c, 1, set("a"), haves(65), api.ErrFull, req{})
		ask(t, c, 1, set("a"), haves(3000), api.ErrFull, req{})
		ask(t, asked(t, c, 1, "a"), 1, set("b"), haves(65), api.ErrFull, req{})
	}
	all := haves(64)
	ask(t, client.New(true), 1, set("*"), all, api.OK, req{Type: 1, Delta: true, Sub: texts{"*"}, Have: all})
	full := asked(t, client.New(true), 1, some(64)...)
	other := texts{"*", "a"}
	ask(t, full, 1, set(other...), nil, api.OK, req{Type: 1, Delta: true, Sub: other, Unsub: some(64)})
	fresh := some(128)[64:]
	ask(t, full, 1, set(fresh...), nil, api.OK, req{Type: 1, Delta: true, Sub: fresh, Unsub: some(64)})
}

// of is a resource that is right, if the name is one.
func of(kind int, name string, seq uint64) api.Resource {
	return api.Resource{Key: api.Key{Type: kind, Name: name}, Seq: seq}
}

// P10.2: Take takes a right response of a topic that is open, with this Delta, and a Nonce above the topic's.
func TestTake(t *testing.T) {
	for _, delta := range []bool{false, true} {
		c := asked(t, asked(t, client.New(delta), 1, "a"), 5)
		c = take(t, c, resp{Type: 1, Delta: delta, Nonce: 1, Version: 9, Resources: list{of(1, "a", 9), of(1, "b", 1)}}, api.OK)
		c = take(t, c, resp{Type: 5, Delta: delta, Nonce: 7}, api.OK)
		c = take(t, c, resp{Type: 1, Delta: delta, Nonce: 2}, api.OK)
		for _, n := range []uint64{1, 2} {
			c = take(t, c, resp{Type: 1, Delta: delta, Nonce: n, Version: 10}, api.ErrStale)
		}
		c = take(t, c, resp{Type: 5, Delta: delta, Nonce: 7}, api.ErrStale)
		c = take(t, c, resp{Type: 5, Delta: delta, Nonce: 6}, api.ErrStale)
		c = take(t, c, resp{Type: 1, Delta: delta, Nonce: 1 << 63}, api.OK)
		c = take(t, c, resp{Type: 1, Delta: delta, Nonce: 1<<63 - 1}, api.ErrStale)
		c = take(t, c, resp{Type: 1, Delta: delta, Nonce: math.MaxUint64}, api.OK)
		c = take(t, c, resp{Type: 1, Delta: delta, Nonce: math.MaxUint64}, api.ErrStale)
		// what is wanted turns, the Nonce stays
		c = asked(t, c, 5, "b")
		take(t, c, resp{Type: 5, Delta: delta, Nonce: 7}, api.ErrStale)
		take(t, c, resp{Type: 5, Delta: delta, Nonce: 8}, api.OK)
	}
	c := asked(t, client.New(true), 1, "a")
	take(t, c, resp{Type: 1, Delta: true, More: true, Nonce: 1, Removed: texts{"a"}}, api.OK)
}

// P10.2: what is not right is ErrArg, ahead of all else.
func TestTakeNotRight(t *testing.T) {
	for _, delta := range []bool{false, true} {
		c := client.New(delta)
		for kind := 1; kind <= api.Types; kind++ {
			c = take(t, asked(t, c, kind, "a"), resp{Type: kind, Delta: delta, Nonce: 9}, api.OK)
		}
		for _, kind := range noTypes {
			take(t, c, resp{Type: kind, Delta: delta, Nonce: 10}, api.ErrArg)
			take(t, client.New(delta), resp{Type: kind, Delta: delta, Nonce: 10}, api.ErrArg)
		}
		gone := of(1, "a", 1)
		gone.Gone = true
		for _, r := range []resp{
			{Type: 1},
			{Type: 1, Nonce: 10, Resources: list{of(2, "a", 1)}},
			{Type: 1, Nonce: 10, Resources: list{of(1, "a", 1), of(1, "*", 1)}},
			{Type: 1, Nonce: 10, Resources: list{of(1, "a", 0)}},
			{Type: 1, Nonce: 10, Resources: list{gone}},
			{Type: 1, Nonce: 10, Resources: slices.Repeat(list{of(1, "a", 1)}, 65)},
			{Type: 1, Nonce: 10, Removed: texts{"*"}},
			{Type: 1, Nonce: 10, Removed: some(65)},
		} {
			r.Delta = delta
			take(t, c, r, api.ErrArg)
			take(t, client.New(!delta), r, api.ErrArg)
			r.Delta = !delta
			take(t, c, r, api.ErrArg)
		}
		take(t, c, resp{Type: 1, Nonce: 10, More: true}, api.ErrArg)
		take(t, c, resp{Type: 1, Nonce: 10, Removed: texts{"a"}}, api.ErrArg)
	}
}

// P10.2: ErrOrder, if nothing was asked of that type, or the response is of another Delta; ahead of ErrStale.
func TestTakeOrder(t *testing.T) {
	for _, delta := range []bool{false, true} {
		c := asked(t, client.New(delta), 2, "a")
		for _, n := range []uint64{1, math.MaxUint64} {
			for kind := 1; kind <= api.Types; kind++ {
				take(t, client.New(delta), resp{Type: kind, Delta: delta, Nonce: n}, api.ErrOrder)
				take(t, c, resp{Type: kind, Delta: !delta, Nonce: n}, api.ErrOrder)
				if kind != 2 {
					take(t, c, resp{Type: kind, Delta: delta, Nonce: n}, api.ErrOrder)
				}
			}
		}
		c = take(t, c, resp{Type: 2, Delta: delta, Nonce: 5}, api.OK)
		take(t, c, resp{Type: 2, Delta: !delta, Nonce: 5}, api.ErrOrder)
		take(t, c, resp{Type: 2, Delta: !delta, Nonce: 6}, api.ErrOrder)
		take(t, c, resp{Type: 2, Delta: delta, Nonce: 5}, api.ErrStale)
	}
}

// P10.2: Answer has the topic's Nonce, and the detail; of a whole stream also what is wanted.
func TestAnswer(t *testing.T) {
	c := asked(t, asked(t, client.New(false), 1, "b", "a", "*"), 2)
	c = take(t, take(t, c, resp{Type: 1, Nonce: 3}, api.OK), resp{Type: 2, Nonce: math.MaxUint64}, api.OK)
	answer(t, c, 1, "", api.OK, req{Type: 1, Nonce: 3, Sub: texts{"*", "a", "b"}})
	answer(t, c, 1, "why", api.OK, req{Type: 1, Nonce: 3, Sub: texts{"*", "a", "b"}, Detail: "why"})
	answer(t, c, 2, "\x00\xff", api.OK, req{Type: 2, Nonce: math.MaxUint64, Detail: "\x00\xff"})
	c = asked(t, c, 1, "d")
	answer(t, c, 1, longDetail, api.OK, req{Type: 1, Nonce: 3, Sub: texts{"d"}, Detail: longDetail})

	c = asked(t, asked(t, client.New(true), 1, "b", "a", "*"), 2)
	c = take(t, take(t, c, resp{Type: 1, Delta: true, Nonce: 3}, api.OK), resp{Type: 2, Delta: true, Nonce: 4}, api.OK)
	answer(t, c, 1, "", api.OK, req{Type: 1, Delta: true, Nonce: 3})
	answer(t, c, 1, "why", api.OK, req{Type: 1, Delta: true, Nonce: 3, Detail: "why"})
	answer(t, c, 2, longDetail, api.OK, req{Type: 2, Delta: true, Nonce: 4, Detail: longDetail})
	c = take(t, c, resp{Type: 1, Delta: true, Nonce: 9}, api.OK)
	answer(t, c, 1, "", api.OK, req{Type: 1, Delta: true, Nonce: 9})
}

// P10.2: ErrArg, if there is no such type, or the detail is too long; ErrNone, if nothing came.
func TestAnswerRefuses(t *testing.T) {
	for _, delta := range []bool{false, true} {
		none := client.New(delta)
		open := asked(t, none, 1, "a")
		came := take(t, open, resp{Type: 1, Delta: delta, Nonce: 1}, api.OK)
		for _, kind := range noTypes {
			for _, detail := range []string{"", "x", longDetail + "x"} {
				answer(t, came, kind, detail, api.ErrArg, req{})
				answer(t, none, kind, detail, api.ErrArg, req{})
			}
		}
		for _, c := range []client.Client{none, open, came} {
			for kind := 1; kind <= api.Types; kind++ {
				answer(t, c, kind, longDetail+"x", api.ErrArg, req{})
				answer(t, c, kind, strings.Repeat("x", 1<<16), api.ErrArg, req{})
				if kind != 1 {
					answer(t, c, kind, "", api.ErrNone, req{})
				}
			}
		}
		for _, c := range []client.Client{none, open} {
			answer(t, c, 1, "", api.ErrNone, req{})
			answer(t, c, 1, "why", api.ErrNone, req{})
		}
	}
}

// P10.2: Has tells those resources, in order, whose name is wanted of the response's type.
func TestHas(t *testing.T) {
	l := list{of(1, "b", 2), of(1, "c", 1), of(1, "a", 3), of(1, "b", 1), of(1, longName, 1)}
	for _, delta := range []bool{false, true} {
		c := asked(t, asked(t, asked(t, client.New(delta), 1, "a", "b"), 2, "*"), 3)
		for _, x := range []struct {
			kind int
			want list
		}{{1, list{l[0], l[2], l[3]}}, {2, l}, {3, nil}, {4, nil}, {5, nil}, {0, nil}} {
			for _, nonce := range []uint64{0, 1} {
				if got := client.Has(c, resp{Type: x.kind, Nonce: nonce, Resources: l}); !slices.Equal(got, x.want) {
					t.Errorf("Has of type %d = %v, want %v", x.kind, got, x.want)
				}
			}
			if got := client.Has(c, resp{Type: x.kind, Nonce: 1}); len(got) > 0 {
				t.Errorf("Has of nothing = %v", got)
			}
		}
		for _, kind := range noTypes {
			if got := client.Has(c, resp{Type: kind, Nonce: 1, Resources: l}); len(got) > 0 {
				t.Errorf("Has of type %d = %v", kind, got)
			}
		}
		if got := client.Has(client.New(delta), resp{Type: 1, Nonce: 1, Resources: l}); len(got) > 0 {
			t.Errorf("Has of a new one = %v", got)
		}
		c = asked(t, c, 1, "c")
		if got := client.Has(c, resp{Type: 1, Delta: !delta, Nonce: 1, Resources: l}); !slices.Equal(got, l[1:2]) {
			t.Errorf("Has = %v", got)
		}
	}
}

// The chapter's examples.
func TestExamples(t *testing.T) {
	answer(t, client.New(false), 1, "", api.ErrNone, req{})
}
