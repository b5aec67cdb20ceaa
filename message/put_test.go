package message_test

import (
	"math"
	"strings"
	"testing"

	"noria/api"
	"noria/message"
)

// P5.2: the byte of the Kind, and the fields that are not 0, false, or empty, by rising Num, lists in their order.
func TestPutReq(t *testing.T) {
	for _, c := range []struct {
		r    req
		want string
	}{
		{req{Type: 1}, "\x01\x08\x01"},
		{req{Type: 5}, "\x01\x08\x05"},
		{req{Type: 2, Delta: true}, "\x01\x08\x02\x10\x01"},
		{req{Type: 2, Nonce: 300}, "\x01\x08\x02\x18\xac\x02"},
		{req{Type: 2, Nonce: math.MaxUint64}, "\x01\x08\x02\x18\xff\xff\xff\xff\xff\xff\xff\xff\xff\x01"},
		{req{Type: 2, Sub: texts{"b", "a", "*", "b"}}, "\x01\x08\x02\x22\x01b\x22\x01a\x22\x01*\x22\x01b"},
		{req{Type: 2, Delta: true, Unsub: texts{"*", "b", "a"}}, "\x01\x08\x02\x10\x01\x2a\x01*\x2a\x01b\x2a\x01a"},
		{req{Type: 2, Delta: true, Have: []have{{"b", 300}, {"a", 0}, {"a", 1}}}, "\x01\x08\x02\x10\x01\x32\x06\x0a\x01b\x10\xac\x02\x32\x03\x0a\x01a\x32\x05\x0a\x01a\x10\x01"},
		{req{Type: 2, Nonce: 1, Detail: "why"}, "\x01\x08\x02\x18\x01\x3a\x03why"},
		{req{Type: 2, Nonce: 1, Detail: "\x00"}, "\x01\x08\x02\x18\x01\x3a\x01\x00"},
		{req{Type: 2, Nonce: 1, Sub: texts{longName}, Detail: longDetail}, "\x01\x08\x02\x18\x01\x22\x40" + longName + "\x3a\x80\x02" + longDetail},
		{req{Type: 3, Delta: true, Nonce: 9, Sub: texts{"a"}, Unsub: texts{"b"}, Have: []have{{"c", 4}}, Detail: "d"},
			"\x01\x08\x03\x10\x01\x18\x09\x22\x01a\x2a\x01b\x32\x05\x0a\x01c\x10\x04\x3a\x01d"},
	} {
		if got, ok := message.PutReq(c.r); got != c.want || !ok {
			t.Errorf("PutReq(%v) = % x, %v, want % x", c.r, got, ok, c.want)
		}
	}
}

// P5.2: each of the Resources as chapter 4 puts it.
func TestPutResp(t *testing.T) {
	for _, c := range []struct {
		r    resp
		want string
	}{
		{resp{Type: 1, Nonce: 1}, "\x02\x08\x01\x18\x01"},
		{resp{Type: 5, Nonce: 300, Delta: true}, "\x02\x08\x05\x10\x01\x18\xac\x02"},
		{resp{Type: 1, Nonce: 1, Delta: true, More: true}, "\x02\x08\x01\x10\x01\x18\x01\x38\x01"},
		{resp{Type: 1, Nonce: 1, Version: 127}, "\x02\x08\x01\x18\x01\x20\x7f"},
		{resp{Type: 1, Nonce: 1, Version: math.MaxUint64}, "\x02\x08\x01\x18\x01\x20\xff\xff\xff\xff\xff\xff\xff\xff\xff\x01"},
		{resp{Type: 1, Nonce: 1, Resources: list{of(1, "b", 300, "x"), of(1, "a", 1, "")}},
			"\x02\x08\x01\x18\x01\x2a\x0b\x08\x01\x12\x01b\x18\xac\x02\x2a\x01x\x2a\x07\x08\x01\x12\x01a\x18\x01"},
		{resp{Type: 1, Nonce: 1, Resources: list{of(1, "a", 1, strings.Repeat("x", api.MaxBody))}},
			"\x02\x08\x01\x18\x01\x2a\x8a\x08\x08\x01\x12\x01a\x18\x01\x2a\x80\x08" + strings.Repeat("x", api.MaxBody)},
		{resp{Type: 1, Nonce: 1, Delta: true, Removed: texts{"b", "a", "b"}}, "\x02\x08\x01\x10\x01\x18\x01\x32\x01b\x32\x01a\x32\x01b"},
		{resp{Type: 2, Delta: true, More: true, Nonce: 9, Version: 8, Resources: list{of(2, "a", 7, "")}, Removed: texts{"b"}},
			"\x02\x08\x02\x10\x01\x18\x09\x20\x08\x2a\x07\x08\x02\x12\x01a\x18\x07\x32\x01b\x38\x01"},
	} {
		if got, ok := message.PutResp(c.r); got != c.want || !ok {
			t.Errorf("PutResp(%v) = % x, %v, want % x", c.r, got, ok, c.want)
		}
	}
}

// P5.2: a Ping has its number, if that is not 0.
func TestPing(t *testing.T) {
	for n, want := range map[uint64]string{
		0: "\x03", 1: "\x03\x08\x01", 5: "\x03\x08\x05", 300: "\x03\x08\xac\x02",
		math.MaxUint64: "\x03\x08\xff\xff\xff\xff\xff\xff\xff\xff\xff\x01",
	} {
		if got := message.Ping(n); got != want {
			t.Errorf("Ping(%d) = % x, want % x", n, got, want)
		}
	}
}

// P5.2: a Status, with OK or with what is wrong.
func TestPutStatus(t *testing.T) {
	for _, c := range []struct {
		s    status
		want string
	}{
		{stat(1, "a", 1, true, ""), "\x04\x08\x01\x12\x01a\x18\x01\x20\x01"},
		{stat(5, "a/b", 300, false, ""), "\x04\x08\x05\x12\x03a/b\x18\xac\x02"},
		{stat(5, "a/b", math.MaxUint64, false, ""), "\x04\x08\x05\x12\x03a/b\x18\xff\xff\xff\xff\xff\xff\xff\xff\xff\x01"},
		{stat(2, "a", 1, false, "why"), "\x04\x08\x02\x12\x01a\x18\x01\x2a\x03why"},
		{stat(2, longName, 1, false, longDetail), "\x04\x08\x02\x12\x40" + longName + "\x18\x01\x2a\x80\x02" + longDetail},
	} {
		if got, ok := message.PutStatus(c.s); got != c.want || !ok {
			t.Errorf("PutStatus(%v) = % x, %v, want % x", c.s, got, ok, c.want)
		}
	}
}

// P5.2: the first byte alone tells the Kind, be it of a message or not.
func TestKind(t *testing.T) {
	if got := message.Kind(""); got != 0 {
		t.Errorf("Kind of nothing = %d", got)
	}
	for b := range 256 {
		want := 0
		if b >= 1 && b <= 4 {
			want = b
		}
		for _, behind := range []string{"", "\x01", "\x08\x05", "\x00\xff"} {
			if got := message.Kind(string([]byte{byte(b)}) + behind); got != want {
				t.Errorf("Kind(%d ..) = %d, want %d", b, got, want)
			}
		}
	}
}
