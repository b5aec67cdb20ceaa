package frame_test

import (
	"slices"
	"strings"
	"testing"

	"noria/api"
	"noria/frame"
)

type texts = []string

// xs is a message of that many bytes.
func xs(n int) string { return strings.Repeat("x", n) }

// P6.1: a message is packed behind its length, in four bytes, the highest first.
func TestPack(t *testing.T) {
	for _, c := range []struct{ s, head string }{
		{"a", "\x00\x00\x00\x01"},
		{"\x00", "\x00\x00\x00\x01"},
		{"ab", "\x00\x00\x00\x02"},
		{"\x00\x00\x00\x01a", "\x00\x00\x00\x05"},
		{"\xff\xfe\u00e4", "\x00\x00\x00\x04"},
		{xs(127), "\x00\x00\x00\x7f"},
		{xs(128), "\x00\x00\x00\x80"},
		{xs(255), "\x00\x00\x00\xff"},
		{xs(256), "\x00\x00\x01\x00"},
		{xs(0x1234), "\x00\x00\x12\x34"},
		{xs(65534), "\x00\x00\xff\xfe"},
		{xs(65535), "\x00\x00\xff\xff"},
		{xs(65536), "\x00\x01\x00\x00"},
	} {
		if got, ok := frame.Pack(c.s); got != c.head+c.s || !ok {
			t.Errorf("Pack(% .20x, %d bytes) = % .20x, %v", c.s, len(c.s), got, ok)
		}
	}
}

// P6.1: what is empty, or longer than a message may be, is not packed.
func TestPackRefuses(t *testing.T) {
	for _, s := range []string{"", xs(65537), xs(65538), xs(2 * 65536), xs(1<<24 + 1), xs(1 << 26)} {
		if got, ok := frame.Pack(s); got != "" || ok {
			t.Errorf("Pack of %d bytes = % .20x, %v", len(s), got, ok)
		}
	}
}

// step is a chunk, and what is answered when it is fed.
type step struct {
	chunk string
	told  texts
	errno api.Errno
	left  int
	bad   bool
}

// feed feeds a new reader step by step.
func feed(t *testing.T, l []step) {
	t.Helper()
	r := frame.New()
	for i, s := range l {
		told, errno := r.Feed(s.chunk)
		if !slices.Equal(told, s.told) || errno != s.errno || r.Left() != s.left || r.Bad() != s.bad {
			t.Errorf("step %d, % .20x: %.20q, %d, left %d, bad %v; want %.20q, %d, %d, %v",
				i, s.chunk, told, errno, r.Left(), r.Bad(), s.told, s.errno, s.left, s.bad)
		}
	}
}

// P6.1: a new reader got nothing.
func TestNew(t *testing.T) {
	r := frame.New()
	if r.Left() != 0 || r.Bad() {
		t.Error(r.Left(), r.Bad())
	}
	feed(t, []step{{}, {}, {chunk: "\x00\x00\x00\x01a", told: texts{"a"}}})
	if one, two := frame.New(), frame.New(); one == two {
		t.Error("not new")
	}
}

// P6.1: a chunk stands behind what is left, and all that is whole now is told, in order.
func TestFeed(t *testing.T) {
	for _, l := range [][]step{
		{{chunk: "\x00\x00\x00\x01a\x00\x00\x00\x02bc\x00\x00\x00\x01d", told: texts{"a", "bc", "d"}}},
		{{chunk: "\x00\x00\x00\x01a\x00\x00\x00\x01a", told: texts{"a", "a"}}},
		{{chunk: "\x00\x00\x00\x05\x00\x00\x00\x00\x00", told: texts{"\x00\x00\x00\x00\x00"}}},
		{{chunk: "\x00", left: 1}, {chunk: "\x00", left: 2}, {chunk: "\x00", left: 3}, {chunk: "\x02", left: 4}, {chunk: "a", left: 5}, {chunk: "b", told: texts{"ab"}}, {}},
		{{chunk: "\x00\x00\x00\x02a", left: 5}, {left: 5}, {chunk: "b\x00\x00", told: texts{"ab"}, left: 2}, {left: 2}, {chunk: "\x00\x01", left: 4}, {chunk: "c", told: texts{"c"}}},
		{{chunk: "\x00\x00\x00\x01a\x00\x00\x00\x02b", told: texts{"a"}, left: 5}, {chunk: "c\x00\x00\x00\x01d\x00", told: texts{"bc", "d"}, left: 1}, {chunk: "\x00\x00\x01e", told: texts{"e"}}},
		{{chunk: "\x00\x00\x00\x01a", told: texts{"a"}}, {chunk: "\x00\x00\x00\x01b", told: texts{"b"}}, {chunk: "\x00\x00\x00", left: 3}},
		{{chunk: "\x00\x00\x01\x00" + xs(255), left: 259}, {chunk: "y\x00", told: texts{xs(255) + "y"}, left: 1}},
	} {
		feed(t, l)
	}
}

// P6.1: a message of MaxFrame bytes is one, whatever its chunks are.
func TestGreatest(t *testing.T) {
	great := xs(api.MaxFrame)
	feed(t, []step{{chunk: "\x00\x01\x00\x00" + great, told: texts{great}}})
	feed(t, []step{{chunk: "\x00\x01\x00\x00", left: 4}, {chunk: great[1:], left: 4 + 65535}, {chunk: "x\x00", told: texts{great}, left: 1}})
	feed(t, []step{{chunk: "\x00\x00\xff\xff" + great, told: texts{great[1:]}, left: 1}})
}

// P6.1: a length of 0 is ErrForm, one above MaxFrame ErrLong; what comes behind it counts for nothing.
func TestBadLengths(t *testing.T) {
	for head, errno := range map[string]api.Errno{
		"\x00\x00\x00\x00": api.ErrForm,
		"\x00\x01\x00\x01": api.ErrLong,
		"\x00\x01\x01\x00": api.ErrLong,
		"\x00\x02\x00\x00": api.ErrLong,
		"\x01\x00\x00\x00": api.ErrLong,
		"\x01\x00\x00\x01": api.ErrLong,
		"\x7f\xff\xff\xff": api.ErrLong,
		"\x80\x00\x00\x00": api.ErrLong,
		"\x80\x00\x00\x01": api.ErrLong,
		"\xff\xff\xff\xff": api.ErrLong,
		"aaaa":             api.ErrLong,
	} {
		bad := step{errno: errno, bad: true}
		with := func(chunk string, told ...string) step {
			s := bad
			s.chunk, s.told = chunk, told
			return s
		}
		after := []step{bad, with("\x00\x00\x00\x01a"), with("\x00\x00\x00\x00"), with("\xff\xff\xff\xff"), with("a"), bad}
		for _, l := range [][]step{
			{with(head)},
			{with(head + "a")},
			{with(head + "\x00\x00\x00\x01a")},
			{with(head + "\x00\x00\x00\x00")},
			{with(head + "\xff\xff\xff\xff")},
			{with("\x00\x00\x00\x01a"+head, "a")},
			{with("\x00\x00\x00\x01a\x00\x00\x00\x02bc"+head+"\x00\x00\x00\x01d", "a", "bc")},
			{{chunk: head[:1], left: 1}, {chunk: head[1:3], left: 3}, with(head[3:])},
			{{chunk: head[:3], left: 3}, {left: 3}, with(head[3:] + "abc")},
			{{chunk: "\x00\x00\x00\x01a" + head[:2], told: texts{"a"}, left: 2}, with(head[2:])},
			{{chunk: "\x00\x00\x00\x02a", left: 5}, with("b"+head+"b", "ab")},
		} {
			feed(t, append(slices.Clip(l), after...))
		}
	}
}
