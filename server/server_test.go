package server_test

import (
	"fmt"
	"math"
	"slices"
	"strconv"
	"strings"
	"testing"

	"noria/api"
	"noria/message"
	"noria/names"
	"noria/server"
)

type (
	texts = []string
	have  = message.Have
	haves = []message.Have
	req   = message.Req
	resp  = message.Resp
	list  = []api.Resource
	topic = server.Topic
	event = server.Event
	srv   = server.Server
)

// noTypes are numbers that are no type; some are one in their low bits alone.
var noTypes = []int{0, -1, 6, 7, 1<<8 + 1, 1<<16 + 1, 1<<32 + 1, math.MaxInt, math.MinInt, math.MinInt + 1}

// longName and longDetail are the longest that may be.
var (
	longName   = strings.Repeat("z", 64)
	longDetail = strings.Repeat("d", 256)
)

// everything knows of all names whether there is one.
var everything = names.Set{All: true}

// some are n names, rising.
func some(n int) texts {
	var l texts
	for i := range n {
		l = append(l, "n"+strconv.Itoa(1000+i))
	}
	return l
}

// had is a name with the Seq that it is had, or was sent, with.
func had(name string, seq uint64) have { return have{Name: name, Seq: seq} }

// set wants, or knows, what these say.
func set(l ...string) names.Set { return names.Of(l) }

// of is a resource that is right, if the name is one.
func of(kind int, name string, seq uint64) api.Resource {
	return api.Resource{Key: api.Key{Type: kind, Name: name}, Seq: seq}
}

// each are resources of type 1, of these names, with rising Seqs from 1 on.
func each(l ...string) list {
	var out list
	for i, name := range l {
		out = append(out, of(1, name, uint64(i)+1))
	}
	return out
}

// sentOf is what was sent, where these are.
func sentOf(l list, none ...string) haves {
	var out haves
	for _, r := range l {
		out = append(out, had(r.Name, r.Seq))
	}
	for _, name := range none {
		out = append(out, had(name, 0))
	}
	slices.SortFunc(out, func(a, b have) int { return strings.Compare(a.Name, b.Name) })
	return out
}

// short is what x is, in so many letters as can be read.
func short(x any) string {
	s := fmt.Sprintf("%+v", x)
	return s[:min(len(s), 400)]
}

func sameTopic(a, b topic) bool {
	return a.Want.All == b.Want.All && slices.Equal(a.Want.Names, b.Want.Names) && a.Asked == b.Asked &&
		a.Last == b.Last && a.Open == b.Open && a.Due == b.Due && slices.Equal(a.Sent, b.Sent)
}

func sameServer(a, b srv) bool {
	for i := range a.Topics {
		if !sameTopic(a.Topics[i], b.Topics[i]) {
			return false
		}
	}
	return a.Begun == b.Begun && a.Delta == b.Delta
}

func sameEvent(a, b event) bool {
	return a.Answered == b.Answered && a.Detail == b.Detail && a.Changed == b.Changed && slices.Equal(a.Sent, b.Sent)
}

func sameResp(a, b resp) bool {
	return a.Type == b.Type && a.Delta == b.Delta && a.More == b.More && a.Nonce == b.Nonce && a.Version == b.Version &&
		slices.Equal(a.Resources, b.Resources) && slices.Equal(a.Removed, b.Removed)
}

// refused takes a request that is to be refused with that error: nothing is told, and the Server stays.
func refused(t *testing.T, s srv, r req, errno api.Errno) {
	t.Helper()
	after, e, got := s.Take(r)
	if got != errno || !sameEvent(e, event{}) {
		t.Errorf("Take(%s) = %s, %d, want %d", short(r), short(e), got, errno)
	}
	if !sameServer(after, s) {
		t.Errorf("Take(%s): the Server is %s, want %s", short(r), short(after), short(s))
	}
}

// take takes a request, and holds the event, and the topic that it leads to, against what is wanted. The other topics stay.
func take(t *testing.T, s srv, r req, e event, x topic) srv {
	t.Helper()
	want := s
	after, got, errno := s.Take(r)
	if errno != api.OK || !sameEvent(got, e) {
		t.Fatalf("Take(%s) = %s, %d, want %s", short(r), short(got), errno, short(e))
	}
	want.Begun, want.Delta, want.Topics[r.Type] = true, r.Delta, x
	if !sameServer(after, want) {
		t.Fatalf("Take(%s): the topic is %s, want %s", short(r), short(after.Topics[r.Type]), short(x))
	}
	return after
}

// asked takes a request of type 1 where there is nothing to say of what comes of it.
func asked(t *testing.T, s srv, r req) srv {
	t.Helper()
	if r.Type == 0 {
		r.Type = 1
	}
	after, _, errno := s.Take(r)
	if errno != api.OK {
		t.Fatalf("Take(%s) = %d", short(r), errno)
	}
	return after
}

// wants is a new Server that these are wanted of, of type 1.
func wants(t *testing.T, delta bool, l ...string) srv {
	t.Helper()
	return asked(t, srv{}, req{Delta: delta, Sub: l})
}

// answered answers what is open of type 1.
func answered(t *testing.T, s srv) srv {
	t.Helper()
	x := s.Topics[1]
	if x.Open == 0 {
		t.Fatal("nothing is open")
	}
	r := req{Delta: s.Delta, Nonce: x.Open}
	if !s.Delta {
		r.Sub = x.Want.List()
	}
	return asked(t, s, r)
}

// none asks for what is to be told of type 1, where there is nothing: the Server stays.
func none(t *testing.T, s srv, l list, known names.Set) {
	t.Helper()
	after, r, ok := s.Next(1, l, known)
	if ok || !sameResp(r, resp{}) {
		t.Errorf("Next(1, %s, %s) = %s, %v", short(l), short(known), short(r), ok)
	}
	if !sameServer(after, s) {
		t.Errorf("Next(1, %s, %s): the Server is %s, want %s", short(l), short(known), short(after), short(s))
	}
}

// next asks for what is to be told of type 1, and holds it against what is wanted (its Type, Delta and Nonce are clear), and against what is sent then.
func next(t *testing.T, s srv, l list, known names.Set, r resp, sent haves) srv {
	t.Helper()
	want := s
	x := &want.Topics[1]
	r.Type, r.Delta, r.Nonce = 1, s.Delta, x.Last+1
	after, got, ok := s.Next(1, l, known)
	if !ok || !sameResp(got, r) {
		t.Fatalf("Next(1, %s, %s) = %s, %v, want %s", short(l), short(known), short(got), ok, short(r))
	}
	if !message.RightResp(got) {
		t.Errorf("%s is not right", short(got))
	}
	x.Last, x.Open, x.Due, x.Sent = r.Nonce, r.Nonce, x.Due && r.More, sent
	if !sameServer(after, want) {
		t.Fatalf("Next(1, %s, %s): the topic is %s, want %s", short(l), short(known), short(after.Topics[1]), short(*x))
	}
	return after
}

// told is next, and it is answered.
func told(t *testing.T, s srv, l list, known names.Set, r resp, sent haves) srv {
	t.Helper()
	return answered(t, next(t, s, l, known, r, sent))
}

// The chapter's examples, and the numbers that it gives.
func TestExamples(t *testing.T) {
	none(t, srv{}, nil, names.Set{})
	if server.Batch != 40 || len(srv{}.Topics) != api.Types+1 {
		t.Errorf("Batch is %d, there are %d topics", server.Batch, len(srv{}.Topics))
	}
}
