package server

import (
	"errors"
	"slices"
	"testing"

	"noria/api"
	"noria/message"
	"noria/names"
)

// Why a request is refused is told by the reason that an error wraps, with words of what is wrong.
func TestFaults(t *testing.T) {
	whole, _, _ := Server{}.Take(message.Req{Type: 1, Sub: []string{"a"}})
	whole, _, _ = whole.Next(1, nil, names.Set{All: true})
	for _, x := range []struct {
		r     message.Req
		why   error
		errno api.Errno
		words string
	}{
		{message.Req{}, errArg, api.ErrArg, "not right: no right request"},
		{message.Req{Type: 1, Delta: true, Nonce: 2}, errOrder, api.ErrOrder, "not at this time: another Delta"},
		{message.Req{Type: 1, Nonce: 2}, errOrder, api.ErrOrder, "not at this time: an answer to what was not sent"},
		{message.Req{Type: 1}, errStale, api.ErrStale, "stale: who asks did not see what was sent last"},
	} {
		err := whole.checkTake(x.r)
		if !errors.Is(err, x.why) || errnoOf(err) != x.errno || err.Error() != x.words {
			t.Errorf("%v, %d, want %s, %d", err, errnoOf(err), x.words, x.errno)
		}
		if err == x.why {
			t.Errorf("%v is not wrapped", err)
		}
		if got := errnoOf(fault{"once more", err}); got != x.errno {
			t.Errorf("wrapped twice: %d, want %d", got, x.errno)
		}
	}
	for _, err := range []error{nil, whole.checkTake(message.Req{Type: 1, Nonce: 1}), whole.checkTake(message.Req{Type: 2})} {
		if err != nil || errnoOf(err) != api.OK {
			t.Error(err)
		}
	}
	if got := errnoOf(errors.New("another")); got != api.OK {
		t.Error(got)
	}
}

// Lists together rise by name; of a name the first stands, of the lists in their order.
func TestRising(t *testing.T) {
	a := []message.Have{{Name: "c", Seq: 1}, {Name: "a", Seq: 2}, {Name: "c", Seq: 3}}
	b := []message.Have{{Name: "b", Seq: 4}, {Name: "a", Seq: 5}}
	for _, x := range []struct {
		got, want []message.Have
	}{
		{rising(ofHave, a, b), []message.Have{{Name: "a", Seq: 2}, {Name: "b", Seq: 4}, {Name: "c", Seq: 1}}},
		{rising(ofHave, b, a), []message.Have{{Name: "a", Seq: 5}, {Name: "b", Seq: 4}, {Name: "c", Seq: 1}}},
		{rising(ofHave, a), []message.Have{{Name: "a", Seq: 2}, {Name: "c", Seq: 1}}},
		{rising(ofHave, nil, nil), nil},
		{rising(ofHave), nil},
	} {
		if !slices.Equal(x.got, x.want) {
			t.Errorf("%v, want %v", x.got, x.want)
		}
	}
}
