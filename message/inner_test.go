package message

import (
	"errors"
	"strings"
	"testing"

	"noria/api"
)

// Whatever is wrong is told by errNone, and by the fields that it stands in.
func TestFaults(t *testing.T) {
	readReqOf := func(s string) error { _, err := readReq(s); return err }
	readRespOf := func(s string) error { _, err := readResp(s); return err }
	readStatusOf := func(s string) error { _, err := readStatus(s); return err }
	for _, c := range []struct {
		err  error
		want string
	}{
		{readReqOf(""), "no message"},
		{readReqOf("\x01\x08"), "no message"},
		{readReqOf("\x02\x08\x01"), "no message"},
		{readReqOf("\x01\x08\x07"), "field 1: no message"},
		{readReqOf("\x01\x08\x01\x10\x02"), "field 2: no message"},
		{readReqOf("\x01\x08\x01\x20\x02"), "field 4: no message"},
		{readReqOf("\x01\x08\x01\x10\x01\x32\x02\x08\x01"), "field 6: field 1: no message"},
		{readReqOf("\x01\x08\x01\x10\x01\x32\x01\x08"), "field 6: no message"},
		{readRespOf("\x02\x08\x01\x2a\x00\x18\x01"), "field 5: no message"},
		{readRespOf("\x02\x08\x01\x18\x01\x38\x01"), "field 7: no message"},
		{readStatusOf("\x04\x08\x01\x18\x01"), "field 2: no message"},
		{checkReq(Req{Type: 1, Unsub: []string{"a"}}), "field 5: no message"},
		{checkReq(Req{Type: 1, Detail: "a"}), "field 7: no message"},
		{checkResp(Resp{Type: 1}), "field 3: no message"},
		{checkStatus(Status{Key: api.Key{Type: 1, Name: "a"}}), "field 3: no message"},
	} {
		if !errors.Is(c.err, errNone) || c.err.Error() != c.want {
			t.Errorf("%v, want %s", c.err, c.want)
		}
	}
	for _, err := range []error{readReqOf("\x01\x08\x01"), readRespOf("\x02\x08\x01\x18\x01"), checkReq(Req{Type: 1}), first(nil, nil), first()} {
		if err != nil {
			t.Error(err)
		}
	}
}

// A list that is too long is refused before anything in it is looked at.
func TestLongListsAreNotGoneThrough(t *testing.T) {
	looked := 0
	look := func(s string) bool { looked++; return true }
	long := strings.Split(strings.Repeat("a ", 4), " ")
	if areAll(long, len(long)-1, look) || looked != 0 {
		t.Errorf("%d were looked at", looked)
	}
	if !areAll(long, len(long), look) || looked != len(long) {
		t.Errorf("%d were looked at", looked)
	}
}
