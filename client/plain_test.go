package client_test

import (
	"math/rand"
	"regexp"
	"slices"
	"sort"
	"testing"

	"noria/api"
	"noria/client"
	"noria/message"
	"noria/names"
)

var plainName = regexp.MustCompile(`\A[a-z0-9./-]{1,64}\z`)

// plainSet is what is wanted, letter for letter: * is in it as itself.
type plainSet map[string]bool

func plainOf(l texts) plainSet {
	p := plainSet{}
	for _, x := range l {
		if x == "*" || plainName.MatchString(x) {
			p[x] = true
		}
	}
	return p
}

func (p plainSet) has(name string) bool {
	return plainName.MatchString(name) && (p["*"] || p[name])
}

// list is what is in it, and not in q, rising: * comes first, as its byte is below those of names.
func (p plainSet) list(q plainSet) texts {
	var out texts
	for name := range p {
		if !q[name] {
			out = append(out, name)
		}
	}
	sort.Strings(out)
	return out
}

type plainTopic struct {
	want  plainSet
	open  bool
	nonce uint64
}

// plainClient is a Client as the chapter goes through it.
type plainClient struct {
	delta  bool
	topics map[int]*plainTopic
}

func newPlain(delta bool) *plainClient {
	p := &plainClient{delta, map[int]*plainTopic{}}
	for kind := 1; kind <= 5; kind++ {
		p.topics[kind] = &plainTopic{want: plainSet{}}
	}
	return p
}

func (p *plainClient) ask(kind int, l texts, h []have) (req, api.Errno) {
	x := p.topics[kind]
	if x == nil {
		return req{}, api.ErrArg
	}
	want := plainOf(l)
	more, less := want.list(x.want), x.want.list(want)
	if x.open && len(more)+len(less) == 0 {
		return req{}, api.ErrNone
	}
	if len(want) > 64 || len(h) > 64 {
		return req{}, api.ErrFull
	}
	r := req{Type: kind, Delta: p.delta, Sub: more, Unsub: less}
	for _, y := range h {
		if p.delta && !x.open && want.has(y.Name) {
			r.Have = append(r.Have, y)
		}
	}
	if !p.delta {
		r.Nonce, r.Sub, r.Unsub = x.nonce, want.list(nil), nil
	}
	x.want, x.open = want, true
	return r, api.OK
}

func (p *plainClient) take(r resp) api.Errno {
	switch x := p.topics[r.Type]; {
	case !message.RightResp(r):
		return api.ErrArg
	case !x.open || r.Delta != p.delta:
		return api.ErrOrder
	case r.Nonce <= x.nonce:
		return api.ErrStale
	default:
		x.nonce = r.Nonce
	}
	return api.OK
}

func (p *plainClient) answer(kind int, detail string) (req, api.Errno) {
	x := p.topics[kind]
	if x == nil || len(detail) > 256 {
		return req{}, api.ErrArg
	}
	if x.nonce == 0 {
		return req{}, api.ErrNone
	}
	r := req{Type: kind, Delta: p.delta, Nonce: x.nonce, Detail: detail}
	if !p.delta {
		r.Sub = x.want.list(nil)
	}
	return r, api.OK
}

func (p *plainClient) has(r resp) list {
	var out list
	for _, y := range r.Resources {
		if x := p.topics[r.Type]; x != nil && x.want.has(y.Name) {
			out = append(out, y)
		}
	}
	return out
}

// is tells whether c is as p is.
func (p *plainClient) is(c client.Client) bool {
	for kind, x := range c.Topics {
		y := p.topics[kind]
		if y == nil {
			y = &plainTopic{}
		}
		if !sameTopic(x, client.Topic{Want: set(y.want.list(nil)...), Open: y.open, Nonce: y.nonce}) {
			return false
		}
	}
	return c.Delta == p.delta
}

// heard is what who answers has heard is wanted, of each type.
type heard map[int]plainSet

// hear turns it by a request: the whole of it, or what is more, and then what is less.
func (h heard) hear(r req) {
	if !r.Delta || h[r.Type] == nil {
		h[r.Type] = plainSet{}
	}
	for _, x := range r.Sub {
		h[r.Type][x] = true
	}
	for _, x := range r.Unsub {
		delete(h[r.Type], x)
	}
}

// pair is a Client, the plain one, and what is heard of it.
type pair struct {
	c     client.Client
	p     *plainClient
	heard heard
}

func newPair(delta bool) *pair { return &pair{client.New(delta), newPlain(delta), heard{}} }

// oneOf is one of l, mostly of its first half.
func oneOf[T any](r *rand.Rand, l ...T) T {
	if r.Intn(8) > 0 {
		l = l[:(len(l)+1)/2]
	}
	return l[r.Intn(len(l))]
}

func someName(r *rand.Rand) string {
	return oneOf(r, "a", "b", "c", "d", "a/b", "*", "a", "b", "", "A", "**", longName, longName+"z")
}

// someNames is mostly a few, and now and then about as many as may be, or more.
func someNames(r *rand.Rand) texts {
	var l texts
	for range r.Intn(6) {
		l = append(l, someName(r))
	}
	if r.Intn(8) == 0 {
		l = append(l, some(128)[r.Intn(64):][:64-r.Intn(6)]...)
	}
	return l
}

func someType(r *rand.Rand) int { return oneOf(r, 1, 1, 2, 3, 1, 5, 0, 6, -1, 1<<32+1) }

func someHave(r *rand.Rand) []have {
	var l []have
	for _, name := range someNames(r) {
		l = append(l, had(name, uint64(r.Intn(3))))
	}
	return l
}

func someResp(r *rand.Rand, delta bool) resp {
	x := resp{Type: someType(r), Delta: delta == (r.Intn(10) > 0), Nonce: uint64(r.Intn(60))}
	for range r.Intn(5) {
		kind := x.Type
		if r.Intn(20) == 0 {
			kind = someType(r)
		}
		x.Resources = append(x.Resources, of(kind, oneOf(r, "a", "b", "c", "d", longName, "", "*"), uint64(r.Intn(30))))
	}
	return x
}

// step does one thing, with both, and tells what, and how it went.
func (x *pair) step(t *testing.T, r *rand.Rand) (string, api.Errno) {
	t.Helper()
	var errno, wanted api.Errno
	var got, want req
	what := oneOf(r, "ask", "take", "has", "answer")
	switch what {
	case "ask":
		kind, l, h := someType(r), someNames(r), someHave(r)
		x.c, got, errno = x.c.Ask(kind, set(l...), h)
		want, wanted = x.p.ask(kind, l, h)
	case "answer":
		kind, detail := someType(r), oneOf(r, "", "why", longDetail, longDetail+"x")
		got, errno = x.c.Answer(kind, detail)
		want, wanted = x.p.answer(kind, detail)
	case "take":
		in := someResp(r, x.c.Delta)
		x.c, errno = x.c.Take(in)
		wanted = x.p.take(in)
	case "has":
		in := someResp(r, x.c.Delta)
		if got, want := client.Has(x.c, in), x.p.has(in); !slices.Equal(got, want) {
			t.Fatalf("Has of %+v = %v, want %v", in, got, want)
		}
	}
	if !sameReq(got, want) || errno != wanted || !x.p.is(x.c) {
		t.Fatalf("%s: %+v, %d, want %+v, %d; the Client is %+v", what, got, errno, want, wanted, x.c)
	}
	x.hold(t, what, got, errno)
	return what, errno
}

// hold holds a request, if there is one, against what each has to be, and what is heard then against what is wanted.
func (x *pair) hold(t *testing.T, what string, r req, errno api.Errno) {
	t.Helper()
	if errno != api.OK || what != "ask" && what != "answer" {
		return
	}
	if !message.RightReq(r) {
		t.Fatalf("%s: not right: %+v", what, r)
	}
	x.heard.hear(r)
	if got, want := x.heard[r.Type].list(nil), x.c.Topics[r.Type].Want.List(); !slices.Equal(got, want) {
		t.Fatalf("%s: %q is heard, %q is wanted", what, got, want)
	}
}

// went is how a call went.
type went struct {
	what  string
	delta bool
	errno api.Errno
}

// P10.1 to P10.3: held against a plain one, whatever comes; each request is right, and who hears all of them knows what is wanted.
func TestPlainly(t *testing.T) {
	r := rand.New(rand.NewSource(1))
	tally := map[went]int{}
	for range 150 {
		for _, delta := range []bool{false, true} {
			x := newPair(delta)
			for range 100 {
				what, errno := x.step(t, r)
				tally[went{what, delta, errno}]++
			}
		}
	}
	for what, l := range map[string][]api.Errno{
		"ask":    {api.OK, api.ErrArg, api.ErrNone, api.ErrFull},
		"take":   {api.OK, api.ErrArg, api.ErrOrder, api.ErrStale},
		"answer": {api.OK, api.ErrArg, api.ErrNone},
		"has":    {api.OK},
	} {
		for _, errno := range l {
			for _, delta := range []bool{false, true} {
				if n := tally[went{what, delta, errno}]; n < 15 {
					t.Errorf("%s, Delta %v, %d: %d times", what, delta, errno, n)
				}
			}
		}
	}
}

// P10.3: what is asked for, whole or by what is more and less, comes to the same: whatever is wanted in between, and whatever comes.
func TestWholeOrByMoreAndLess(t *testing.T) {
	r := rand.New(rand.NewSource(2))
	asked := 0
	for range 150 {
		whole, delta := newPair(false), newPair(true)
		for range 40 {
			kind, l, h := someType(r), someNames(r), someHave(r)
			nonce := uint64(r.Intn(60))
			a, b := whole.both(t, kind, l, h, nonce), delta.both(t, kind, l, h, nonce)
			if a != b {
				t.Fatalf("Ask(%d, %q): %d whole, %d of Delta", kind, l, a, b)
			}
			if a != api.OK {
				continue
			}
			asked++
			one, other := whole.heard[kind].list(nil), delta.heard[kind].list(nil)
			if !slices.Equal(one, other) || !slices.Equal(one, plainOf(l).list(nil)) {
				t.Fatalf("Ask(%d, %q): %q whole, %q of Delta", kind, l, one, other)
			}
			if !sameTopic(whole.c.Topics[kind], delta.c.Topics[kind]) || !names.Same(whole.c.Topics[kind].Want, set(l...)) {
				t.Fatalf("Ask(%d, %q): %v whole, %v of Delta", kind, l, whole.c, delta.c)
			}
		}
	}
	if asked < 2000 {
		t.Errorf("asked %d times", asked)
	}
}

// both asks, and takes a response to it.
func (x *pair) both(t *testing.T, kind int, l texts, h []have, nonce uint64) api.Errno {
	t.Helper()
	after, r, errno := x.c.Ask(kind, set(l...), h)
	x.c = after
	x.hold(t, "ask", r, errno)
	x.c, _ = after.Take(resp{Type: kind, Delta: after.Delta, Nonce: nonce})
	return errno
}
