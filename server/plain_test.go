package server_test

import (
	"maps"
	"math/rand"
	"regexp"
	"slices"
	"testing"

	"noria/api"
	"noria/message"
	"noria/names"
)

var plainName = regexp.MustCompile(`\A[a-z0-9./-]{1,64}\z`)

// plainSet is what is wanted, or known, letter for letter: * is in it as itself.
type plainSet map[string]bool

func plainOf(l texts) plainSet {
	p := plainSet{}
	for _, x := range l {
		if x == "*" || plainName.MatchString(x) {
			p[x] = true
		}
	}
	return p
}

func (p plainSet) has(name string) bool {
	return plainName.MatchString(name) && (p["*"] || p[name])
}

type plainTopic struct {
	want       plainSet
	asked, due bool
	last, open uint64
	sent       map[string]uint64
}

// plainServer is a Server as the chapter goes through it.
type plainServer struct {
	begun, delta bool
	topics       map[int]*plainTopic
}

func newPlain() *plainServer {
	p := &plainServer{topics: map[int]*plainTopic{}}
	for kind := 1; kind <= 5; kind++ {
		p.topics[kind] = &plainTopic{want: plainSet{}, sent: map[string]uint64{}}
	}
	return p
}

func (p *plainServer) take(r req) (event, api.Errno) {
	if !message.RightReq(r) {
		return event{}, api.ErrArg
	}
	x := p.topics[r.Type]
	if p.begun && r.Delta != p.delta {
		return event{}, api.ErrOrder
	}
	if r.Nonce > x.last {
		return event{}, api.ErrOrder
	}
	var e event
	if r.Nonce != 0 && r.Nonce == x.open {
		x.open = 0
		e = event{Answered: true, Detail: r.Detail, Sent: x.list()}
	} else if !r.Delta && r.Nonce != x.last {
		return event{}, api.ErrStale
	}
	p.begun, p.delta = true, r.Delta
	was := maps.Clone(x.want)
	if r.Delta {
		x.turn(r, was)
	} else {
		x.want = plainOf(r.Sub)
		x.forget()
	}
	e.Changed = !x.asked || !maps.Equal(was, x.want)
	x.asked, x.due = true, x.due || e.Changed
	return e, api.OK
}

func (x *plainTopic) turn(r req, was plainSet) {
	for _, name := range r.Sub {
		x.want[name] = true
	}
	for _, name := range r.Unsub {
		delete(x.want, name)
	}
	x.forget()
	for _, name := range r.Sub {
		if !was[name] {
			delete(x.sent, name)
		}
	}
	for _, h := range r.Have {
		if _, is := x.sent[h.Name]; !x.asked && !is && x.want.has(h.Name) {
			x.sent[h.Name] = h.Seq
		}
	}
}

// forget forgets that it was sent what is not wanted.
func (x *plainTopic) forget() {
	for name := range x.sent {
		if !x.want.has(name) {
			delete(x.sent, name)
		}
	}
}

// list is what was sent, rising.
func (x *plainTopic) list() haves {
	var out haves
	for _, name := range slices.Sorted(maps.Keys(x.sent)) {
		out = append(out, had(name, x.sent[name]))
	}
	return out
}

// held is what there is of what is wanted.
func (x *plainTopic) held(kind int, l list) map[string]api.Resource {
	out := map[string]api.Resource{}
	for _, r := range l {
		if _, is := out[r.Name]; is || r.Type != kind || r.Gone || !x.want.has(r.Name) {
			continue
		}
		if r.Seq >= 1 && r.Seq <= 1<<62 && len(r.Body) <= 1024 {
			out[r.Name] = r
		}
	}
	return out
}

func (p *plainServer) next(kind int, l list, known plainSet) (resp, bool) {
	x := p.topics[kind]
	if x == nil || !x.asked || x.open != 0 || x.last >= 1<<62 {
		return resp{}, false
	}
	held := x.held(kind, l)
	r, ok := x.whole(held, known)
	if p.delta {
		r, ok = x.more(held, known)
	}
	if !ok {
		return resp{}, false
	}
	if !p.delta {
		clear(x.sent)
	}
	for _, y := range r.Resources {
		x.sent[y.Name] = y.Seq
	}
	for _, name := range r.Removed {
		x.sent[name] = 0
	}
	for _, y := range held {
		r.Version = max(r.Version, y.Seq)
	}
	if !r.More {
		x.due = false
	}
	x.last++
	x.open = x.last
	r.Type, r.Delta, r.Nonce = kind, p.delta, x.last
	return r, true
}

func (x *plainTopic) whole(held map[string]api.Resource, known plainSet) (resp, bool) {
	for name := range x.want {
		if !known["*"] && !known[name] {
			return resp{}, false
		}
	}
	same := len(held) == len(x.sent)
	for name, y := range held {
		same = same && x.sent[name] == y.Seq
	}
	if len(held) > 40 || same && !x.due {
		return resp{}, false
	}
	var r resp
	for _, name := range slices.Sorted(maps.Keys(held)) {
		r.Resources = append(r.Resources, held[name])
	}
	return r, true
}

func (x *plainTopic) more(held map[string]api.Resource, known plainSet) (resp, bool) {
	r := resp{More: x.want["*"] && !known["*"]}
	for _, name := range slices.Sorted(maps.Keys(held)) {
		seq, is := x.sent[name]
		switch {
		case is && seq == held[name].Seq:
		case len(r.Resources) == 40:
			r.More = true
		default:
			r.Resources = append(r.Resources, held[name])
		}
	}
	both := maps.Clone(x.want)
	for name := range x.sent {
		both[name] = true
	}
	for _, name := range slices.Sorted(maps.Keys(both)) {
		seq, is := x.sent[name]
		_, there := held[name]
		switch {
		case there, !known.has(name), is && seq == 0:
		case len(r.Removed) == 40:
			r.More = true
		default:
			r.Removed = append(r.Removed, name)
		}
	}
	end := x.due && x.want["*"] && known["*"]
	return r, end || len(r.Resources)+len(r.Removed) > 0
}

// is tells whether s is as p is.
func (p *plainServer) is(s srv) bool {
	for kind, x := range s.Topics {
		y := p.topics[kind]
		if y == nil {
			y = &plainTopic{}
		}
		want := set(slices.Sorted(maps.Keys(y.want))...)
		if !sameTopic(x, topic{Want: want, Asked: y.asked, Last: y.last, Open: y.open, Due: y.due, Sent: y.list()}) {
			return false
		}
	}
	return s.Begun == p.begun && s.Delta == p.delta
}

// oneOf is one of l, mostly of its first half.
func oneOf[T any](r *rand.Rand, l ...T) T {
	if r.Intn(8) > 0 {
		l = l[:(len(l)+1)/2]
	}
	return l[r.Intn(len(l))]
}

func someName(r *rand.Rand) string {
	return oneOf(r, "a", "b", "c", "d", "e", "a/b", "*", "b", "a", longName)
}

// someNames is mostly a few, and now and then many.
func someNames(r *rand.Rand) texts {
	var l texts
	for range r.Intn(5) {
		l = append(l, someName(r))
	}
	if r.Intn(9) == 0 {
		l = append(l, some(110)[r.Intn(51):][:54+r.Intn(5)]...)
	}
	if r.Intn(40) == 0 {
		l = append(l, oneOf(r, "A", "", "**", longName+"z"))
	}
	return l
}

// nonceOf is mostly one that answers.
func nonceOf(r *rand.Rand, last uint64) uint64 {
	return oneOf(r, last, last, last, last, last+1, 0, last-min(last, 1), last-min(last, 2))
}

// someReq is mostly of that Delta, and mostly right.
func (x *pair) someReq(r *rand.Rand) req {
	q := req{Type: oneOf(r, 1, 1, 2, 3, 5, 1, 0, 6, -1), Delta: x.delta == (r.Intn(20) > 0), Sub: someNames(r)}
	if x := x.p.topics[q.Type]; x != nil {
		q.Nonce = nonceOf(r, x.last)
	}
	if q.Nonce > 0 {
		q.Detail = oneOf(r, "", "", "why", longDetail)
	}
	if !q.Delta {
		return q
	}
	q.Unsub = someNames(r)
	for _, name := range someNames(r) {
		if name != "*" {
			q.Have = append(q.Have, had(name, uint64(r.Intn(4))))
		}
	}
	return q
}

// someList is what may be there, with what counts for nothing.
func someList(r *rand.Rand) list {
	var l list
	for range r.Intn(12) {
		x := of(oneOf(r, 1, 1, 2, 1, 3, 0, 6, 5), oneOf(r, "a", "b", "c", "d", "e", longName, "x", "*", "A"), uint64(r.Intn(5)))
		x.Gone = r.Intn(9) == 0
		l = append(l, x)
	}
	if r.Intn(6) == 0 {
		for _, name := range some(110)[r.Intn(50):] {
			l = append(l, of(1, name, uint64(r.Intn(3)+1)))
		}
	}
	return l
}

// someKnown is mostly all, or many, with what is no name.
func someKnown(r *rand.Rand) texts {
	l := oneOf(r, texts{"*"}, texts{"a", "b", "c", "d"}, append(some(100), "e", "a", "b", "c", "d", longName), texts{"*", "b"}, texts{"A", "a", ""}, nil)
	return append(slices.Clone(l), someNames(r)...)
}

// went is how a call went.
type went struct {
	what  string
	delta bool
	errno api.Errno
}

// pair is a Server, and the plain one, and the Delta that is mostly asked for.
type pair struct {
	s     srv
	p     *plainServer
	delta bool
}

// step does one thing, with both, and tells how it went.
func (x *pair) step(t *testing.T, r *rand.Rand) went {
	t.Helper()
	if r.Intn(2) == 0 {
		return x.take(t, x.someReq(r))
	}
	return x.next(t, oneOf(r, 1, 1, 1, 2, 3, 0, 6, 5), someList(r), someKnown(r))
}

func (x *pair) take(t *testing.T, q req) went {
	t.Helper()
	after, e, errno := x.s.Take(q)
	if want, wanted := x.p.take(q); errno != wanted || !sameEvent(e, want) || !x.p.is(after) {
		t.Fatalf("%s: Take(%s) = %s, %d, want %s, %d; the Server is %s", short(x.s), short(q), short(e), errno, short(want), wanted, short(after))
	}
	x.s = after
	return went{"take", x.delta, errno}
}

func (x *pair) next(t *testing.T, kind int, l list, k texts) went {
	t.Helper()
	after, got, ok := x.s.Next(kind, l, names.Set{All: slices.Contains(k, "*"), Names: k})
	if want, wanted := x.p.next(kind, l, plainOf(k)); ok != wanted || !sameResp(got, want) || !x.p.is(after) {
		t.Fatalf("%s: Next(%d, %v, %q) = %+v, %v, want %+v, %v; the Server is %s", short(x.s), kind, l, k, got, ok, want, wanted, short(after))
	}
	x.s = after
	if _, put := message.PutResp(got); put != ok {
		t.Fatalf("%+v is told: %v, can be put: %v", got, ok, put)
	}
	switch {
	case !ok:
		return went{"none", x.delta, api.OK}
	case got.More:
		return went{"more", x.delta, api.OK}
	}
	return went{"next", x.delta, api.OK}
}

// P11.1, P11.2: held against a plain one, whatever comes.
func TestPlainly(t *testing.T) {
	r := rand.New(rand.NewSource(1))
	tally := map[went]int{}
	for i := range 600 {
		x := &pair{p: newPlain(), delta: i%2 == 0}
		for range 60 {
			tally[x.step(t, r)]++
		}
	}
	for _, delta := range []bool{false, true} {
		for w, least := range map[went]int{
			{"take", delta, api.OK}:       1000,
			{"take", delta, api.ErrArg}:   100,
			{"take", delta, api.ErrOrder}: 100,
			{"next", delta, api.OK}:       200,
			{"none", delta, api.OK}:       200,
		} {
			if n := tally[w]; n < least {
				t.Errorf("%v: %d times", w, n)
			}
		}
	}
	if n := tally[went{"more", true, api.OK}]; n < 200 {
		t.Errorf("More: %d times", n)
	}
	if n := tally[went{"take", false, api.ErrStale}]; n < 100 {
		t.Errorf("stale: %d times", n)
	}
}
