package client

import (
	"errors"
	"strconv"
	"strings"
	"testing"

	"noria/api"
	"noria/message"
	"noria/names"
)

// What stands in the way is told by the fault that an error wraps, and by the topic that it is of.
func TestFaults(t *testing.T) {
	want := names.Of([]string{"a"})
	c, _, _ := New(true).Ask(2, want, nil)
	c, _ = c.Take(message.Resp{Type: 2, Delta: true, Nonce: 4})
	for _, x := range []struct {
		err   error
		errno api.Errno
		words string
	}{
		{c.checkAsk(0, want, nil), api.ErrArg, "no such type"},
		{c.checkAsk(2, want, nil), api.ErrNone, "topic 2: nothing else is wanted"},
		{c.checkAsk(3, want, make([]message.Have, 65)), api.ErrFull, "topic 3: too many names"},
		{c.checkTake(message.Resp{Type: 2}), api.ErrArg, "no right response"},
		{c.checkTake(message.Resp{Type: 3, Delta: true, Nonce: 1}), api.ErrOrder, "topic 3: nothing was asked"},
		{c.checkTake(message.Resp{Type: 2, Nonce: 5}), api.ErrOrder, "topic 2: another Delta"},
		{c.checkTake(message.Resp{Type: 2, Delta: true, Nonce: 4}), api.ErrStale, "topic 2: a later one came"},
		{c.checkAnswer(6, ""), api.ErrArg, "no such type"},
		{c.checkAnswer(2, strings.Repeat("x", 257)), api.ErrArg, "topic 2: too long a detail"},
		{c.checkAnswer(1, ""), api.ErrNone, "topic 1: nothing came"},
	} {
		if x.err == nil || x.err.Error() != x.words || errnoOf(x.err) != x.errno {
			t.Errorf("%v, %d, want %s, %d", x.err, errnoOf(x.err), x.words, x.errno)
		}
	}
	var in inTopic
	if err := c.checkAnswer(1, ""); !errors.As(err, &in) || in.kind != 1 {
		t.Error(err)
	}
	for _, err := range []error{nil, c.checkAsk(3, want, nil), c.checkTake(message.Resp{Type: 2, Delta: true, Nonce: 5}), c.checkAnswer(2, "")} {
		if err != nil || errnoOf(err) != api.OK {
			t.Error(err)
		}
	}
}

// What is wanted less is held against the limit too, where a topic was written down by hand.
func TestTooMuchLess(t *testing.T) {
	var l []string
	for i := range 65 {
		l = append(l, strconv.Itoa(i))
	}
	for n, want := range map[int]api.Errno{64: api.OK, 65: api.ErrFull} {
		c := New(true)
		c.Topics[1] = Topic{Want: names.Of(l[:n]), Open: true}
		if _, _, errno := c.Ask(1, names.Of([]string{"a"}), nil); errno != want {
			t.Errorf("%d less: %d, want %d", n, errno, want)
		}
		c.Delta = false
		if _, _, errno := c.Ask(1, names.Of([]string{"a"}), nil); errno != api.OK {
			t.Errorf("%d less, whole: %d", n, errno)
		}
	}
}

// One size that is above the most is enough, wherever it stands.
func TestExceeds(t *testing.T) {
	for _, c := range []struct {
		sizes []int
		want  bool
	}{
		{nil, false}, {[]int{0}, false}, {[]int{5, 5}, false}, {[]int{6}, true}, {[]int{6, 0, 0}, true}, {[]int{0, 0, 6}, true},
	} {
		if got := exceeds(5, c.sizes...); got != c.want {
			t.Errorf("exceeds(5, %v) = %v", c.sizes, got)
		}
	}
}
