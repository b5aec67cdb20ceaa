package message_test

import (
	"math"
	"strings"
	"testing"

	"noria/message"
	"noria/wire"
)

// What a message of each Kind needs, and no more.
const (
	isReq    = "\x01\x08\x01"
	isResp   = "\x02\x08\x01\x18\x01"
	isStatus = "\x04\x08\x01\x12\x01a\x18\x01"
)

// isA is a resource of Type 1, Name a, Seq 1.
const isA = "\x08\x01\x12\x01a\x18\x01"

// Fields of numbers that no message has, of each Kind.
const others = "\x40\x01\x42\x01x\x41" + "12345678" + "\x45" + "1234" + "\xfa\xff\xff\xff\x0f\x02\x00\xff"

// P5.3: of a number the last one, of lists all, in any order of the fields; fields of other numbers count for nothing.
func TestGetReq(t *testing.T) {
	for _, c := range []struct {
		s    string
		want req
	}{
		{isReq, req{Type: 1}},
		{isReq + "\x08\x05", req{Type: 5}},
		{isReq + "\x10\x01", req{Type: 1, Delta: true}},
		{isReq + "\x10\x01\x10\x00", req{Type: 1}},
		{isReq + "\x10\x00\x10\x01", req{Type: 1, Delta: true}},
		{isReq + "\x18\x07\x18\x08", req{Type: 1, Nonce: 8}},
		{isReq + "\x18\x07\x18\x00", req{Type: 1}},
		{isReq + "\x18\x07\x3a\x01x\x3a\x01y", req{Type: 1, Nonce: 7, Detail: "y"}},
		{isReq + "\x3a\x01x\x18\x07", req{Type: 1, Nonce: 7, Detail: "x"}},
		{isReq + "\x3a\x01x\x3a\x00", req{Type: 1}},
		{isReq + "\x22\x01b\x22\x01a\x22\x01*\x22\x01b", req{Type: 1, Sub: texts{"b", "a", "*", "b"}}},
		{"\x01\x22\x01b\x08\x02\x22\x01a\x08\x01", req{Type: 1, Sub: texts{"b", "a"}}},
		{isReq + "\x2a\x01b\x22\x01c\x2a\x01*\x10\x01", req{Type: 1, Delta: true, Sub: texts{"c"}, Unsub: texts{"b", "*"}}},
		{"\x01\x32\x03\x0a\x01b\x10\x01\x32\x05\x0a\x01a\x10\x07\x08\x01", req{Type: 1, Delta: true, Have: []have{{"b", 0}, {"a", 7}}}},
		{isReq + "\x10\x01\x32\x05\x10\x07\x0a\x01a", req{Type: 1, Delta: true, Have: []have{{"a", 7}}}},
		{isReq + "\x10\x01\x32\x0a\x0a\x01A\x10\x07\x10\x08\x0a\x01a", req{Type: 1, Delta: true, Have: []have{{"a", 8}}}},
		{isReq + "\x10\x01\x32\x07\x0a\x01a\x10\x07\x10\x00", req{Type: 1, Delta: true, Have: []have{{"a", 0}}}},
		{isReq + "\x10\x01" + wire.Text(6, "\x0a\x01a\x18\x09\x1a\x01x"+others+"\x10\x01"), req{Type: 1, Delta: true, Have: []have{{"a", 1}}}},

		// an earlier one that would be wrong as the last
		{"\x01\x08\x00\x08\x06" + wire.Number(1, math.MaxUint64) + "\x08\x01", req{Type: 1}},
		{isReq + "\x10\x02" + wire.Number(2, math.MaxUint64) + "\x10\x00", req{Type: 1}},
		{isReq + "\x10\x02\x10\x01", req{Type: 1, Delta: true}},
		{isReq + "\x18\x01" + wire.Text(7, longDetail+"x") + "\x3a\x01x", req{Type: 1, Nonce: 1, Detail: "x"}},

		// 0 and empty stand as what is left out; numbers longer than they need be
		{isReq + "\x10\x00\x18\x00\x3a\x00", req{Type: 1}},
		{"\x01\x88\x00\x81\x00\x90\x80\x00\x81\x80\x00\x98\x00\x80\x00\xa2\x00\x81\x00a", req{Type: 1, Delta: true, Sub: texts{"a"}}},

		{"\x01" + others + isReq[1:] + others, req{Type: 1}},
		{isReq + "\x42\x80\x20" + strings.Repeat("x", 4096), req{Type: 1}},
	} {
		if got, ok := message.GetReq(c.s); !sameReq(got, c.want) || !ok {
			t.Errorf("GetReq(% .80x) = %v, %v, want %v", c.s, got, ok, c.want)
		}
	}
}

// P5.3: what is of another Kind, not parsed, or not right is not got; nothing is told then (P2).
func TestGetReqRefuses(t *testing.T) {
	var wrong []string
	for _, more := range []string{
		// the last one is wrong
		"\x08\x00", "\x08\x06", wire.Number(1, 1<<8+1), wire.Number(1, 1<<16+1), wire.Number(1, 1<<32+1), wire.Number(1, 1<<63+1), wire.Number(1, math.MaxUint64),
		"\x10\x02", "\x10\x01\x10\x02", "\x10\x80\x02", wire.Number(2, 1<<32+1), wire.Number(2, 1<<63), wire.Number(2, math.MaxUint64),
		"\x3a\x01x", "\x18\x01\x3a\x01x\x18\x00", "\x18\x01" + wire.Text(7, longDetail+"x"),
		// any of a list is wrong
		"\x22\x00", "\x22\x00\x22\x01a", "\x22\x01A\x22\x01a", "\x22\x02**", wire.Text(4, longName+"a"), strings.Repeat("\x22\x01a", 65),
		"\x2a\x01a", "\x2a\x01a\x10\x01\x10\x00", "\x10\x01\x2a\x00\x2a\x01a", "\x10\x01" + strings.Repeat("\x2a\x01a", 65),
		"\x32\x03\x0a\x01a", "\x10\x01" + strings.Repeat("\x32\x03\x0a\x01a", 65),
		"\x10\x01\x32\x00", "\x10\x01\x32\x02\x10\x01", "\x10\x01\x32\x03\x0a\x01*", "\x10\x01\x32\x03\x0a\x01A", "\x10\x01\x32\x05\x0a\x01a\x0a\x00",
		"\x10\x01\x32\x03\x0a\x01A\x32\x03\x0a\x01a",
		// a Have is not parsed, or its fields are of another Kind
		"\x10\x01\x32\x01\x0a", "\x10\x01\x32\x02\x0a\x01", "\x10\x01\x32\x01a", "\x10\x01\x32\x04\x0a\x01a\x10", "\x10\x01\x32\x04\x0a\x01a\x00",
		"\x10\x01\x32\x05\x08\x01\x0a\x01a", "\x10\x01\x32\x06\x0a\x01a\x12\x01x", "\x10\x01\x32\x08\x0a\x01a\x12\x01x\x10\x01",
		"\x10\x01" + wire.Text(6, "\x0a\x01a\x11"+"12345678"), "\x10\x01" + wire.Text(6, "\x0d"+"1234"+"\x0a\x01a"),
		// not parsed
		"\x00", "\x08", "\x22\x02a", "\x40", "\x43", "\x00\xff", "\x42\xff\xff\xff\xff\xff\xff\xff\xff\xff\x01",
	} {
		wrong = append(wrong, isReq+more)
	}
	wrong = append(wrong, "", "\x00", "\x01", "\x08\x01", "\x00\x08\x01", "\x02\x08\x01", "\x03\x08\x01", "\x04\x08\x01", "\x05\x08\x01", "\x81\x08\x01",
		"\x01\x10\x01", "\x01\x01\x08\x01", "\x01\x22\x01a", isReq[:2], "\x01"+others, isResp, isStatus, message.Ping(1))
	for _, s := range wrong {
		if got, ok := message.GetReq(s); !isNoReq(got) || ok {
			t.Errorf("GetReq(% .80x) = %v, %v, want false", s, got, ok)
		}
	}
}

// P5.3: the same of a Resp.
func TestGetResp(t *testing.T) {
	for _, c := range []struct {
		s    string
		want resp
	}{
		{isResp, resp{Type: 1, Nonce: 1}},
		{isResp + "\x08\x04\x18\x09", resp{Type: 4, Nonce: 9}},
		{isResp + "\x10\x01", resp{Type: 1, Nonce: 1, Delta: true}},
		{isResp + "\x10\x01\x10\x00", resp{Type: 1, Nonce: 1}},
		{isResp + "\x38\x01\x10\x01", resp{Type: 1, Nonce: 1, Delta: true, More: true}},
		{isResp + "\x38\x01\x38\x00", resp{Type: 1, Nonce: 1}},
		{isResp + "\x20\x05\x20\x07", resp{Type: 1, Nonce: 1, Version: 7}},
		{isResp + "\x20\x05\x20\x00", resp{Type: 1, Nonce: 1}},
		{"\x02\x2a\x07" + isA + "\x18\x02\x2a\x0a\x08\x01\x12\x01b\x18\x05\x2a\x01x\x08\x01", resp{Type: 1, Nonce: 2, Resources: list{of(1, "a", 1, ""), of(1, "b", 5, "x")}}},
		{isResp + "\x2a\x07" + isA + "\x2a\x07" + isA, resp{Type: 1, Nonce: 1, Resources: list{of(1, "a", 1, ""), of(1, "a", 1, "")}}},
		{isResp + wire.Text(5, "\x08\x05"+isA+"\x20\x00\x2a\x01x"+others), resp{Type: 1, Nonce: 1, Resources: list{of(1, "a", 1, "x")}}},
		{isResp + "\x32\x01b\x32\x01a\x10\x01\x32\x01b", resp{Type: 1, Nonce: 1, Delta: true, Removed: texts{"b", "a", "b"}}},
		{isResp + "\x10\x01\x32\x01b\x2a\x07" + isA + "\x32\x01a", resp{Type: 1, Nonce: 1, Delta: true, Removed: texts{"b", "a"}, Resources: list{of(1, "a", 1, "")}}},

		// an earlier one that would be wrong as the last
		{"\x02\x08\x00\x08\x06" + wire.Number(1, math.MaxUint64) + "\x18\x00" + isResp[1:], resp{Type: 1, Nonce: 1}},
		{isResp + "\x10\x02\x38\x02" + wire.Number(7, math.MaxUint64) + "\x10\x01\x38\x01", resp{Type: 1, Nonce: 1, Delta: true, More: true}},
		{isResp + "\x10\x02\x38\x02\x10\x00\x38\x00", resp{Type: 1, Nonce: 1}},

		{isResp + "\x10\x00\x20\x00\x38\x00", resp{Type: 1, Nonce: 1}},
		{"\x02" + others + isResp[1:] + others, resp{Type: 1, Nonce: 1}},
	} {
		if got, ok := message.GetResp(c.s); !sameResp(got, c.want) || !ok {
			t.Errorf("GetResp(% .80x) = %v, %v, want %v", c.s, got, ok, c.want)
		}
	}
}

// P5.3: the same of a Resp.
func TestGetRespRefuses(t *testing.T) {
	var wrong []string
	for _, more := range []string{
		"\x08\x00", "\x08\x06", wire.Number(1, 1<<32+1), wire.Number(1, 1<<63+1), wire.Number(1, math.MaxUint64),
		"\x18\x00",
		"\x10\x02", "\x10\x01\x10\x02", wire.Number(2, 1<<32+1), wire.Number(2, math.MaxUint64),
		"\x38\x01", "\x10\x01\x38\x02", "\x38\x02", "\x10\x01\x38\x01\x38\x02", "\x10\x01\x38\x01\x10\x00", "\x10\x01" + wire.Number(7, 1<<32+1), "\x10\x01" + wire.Number(7, 1<<63), "\x10\x01" + wire.Number(7, math.MaxUint64),
		"\x32\x01a", "\x10\x01\x32\x00", "\x10\x01\x32\x01*", "\x10\x01\x32\x01A\x32\x01a", "\x10\x01" + strings.Repeat("\x32\x01a", 65),
		// a resource that is none, or of another type, or gone
		"\x2a\x00", "\x2a\x01\x08", "\x2a\x01a", "\x2a\x06" + isA[:6], "\x2a\x07\x08\x02" + isA[2:], "\x2a\x07" + isA + "\x08\x02", "\x2a\x09" + isA + "\x20\x01", "\x2a\x09" + isA + "\x20\x02",
		"\x2a\x09" + isA + "\x18\x00", "\x2a\x0a" + isA + "\x12\x01*", "\x2a\x0a" + isA + "\x0a\x01x", "\x2a\x00\x2a\x07" + isA, "\x2a\x09" + isA + "\x20\x01\x2a\x07" + isA,
		strings.Repeat("\x2a\x07"+isA, 65),
		"\x00", "\x08", "\x32\x02a", "\x40", "\x43",
	} {
		wrong = append(wrong, isResp+more)
	}
	wrong = append(wrong, "", "\x00", "\x02", "\x08\x01\x18\x01", "\x01"+isResp[1:], "\x03"+isResp[1:], "\x04"+isResp[1:], "\x82"+isResp[1:], "\x02\x18\x01", "\x02\x08\x01", isResp[:4], "\x02"+others, isReq, isStatus)
	for _, s := range wrong {
		if got, ok := message.GetResp(s); !isNoResp(got) || ok {
			t.Errorf("GetResp(% .80x) = %v, %v, want false", s, got, ok)
		}
	}
}

// P5.3: the same of a Ping.
func TestGetPing(t *testing.T) {
	for s, want := range map[string]uint64{
		"\x03": 0, "\x03\x08\x05": 5, "\x03\x08\x05\x08\x06": 6, "\x03\x08\x05\x08\x00": 0, "\x03\x08\x85\x00": 5,
		"\x03\x10\x05": 0, "\x03\x12\x01x\x08\x05\x10\x06": 5, "\x03" + others: 0, "\x03" + wire.Number(1, math.MaxUint64): math.MaxUint64,
	} {
		if got, ok := message.GetPing(s); got != want || !ok {
			t.Errorf("GetPing(% x) = %d, %v, want %d", s, got, ok, want)
		}
	}
	for _, s := range []string{
		"", "\x00", "\x08\x05", "\x01\x08\x05", "\x02\x08\x05", "\x04\x08\x05", "\x05\x08\x05", "\x83\x08\x05", isReq, isResp, isStatus,
		"\x03\x00", "\x03\x08", "\x03\x08\x05\x08", "\x03\x03\x08\x05", "\x03\x0a\x01x", "\x03\x08\x05\x0a\x01x", "\x03\x0a\x01x\x08\x05", "\x03\x09" + "12345678", "\x03\x08\x05\x0d" + "1234",
	} {
		if got, ok := message.GetPing(s); got != 0 || ok {
			t.Errorf("GetPing(% x) = %d, %v, want false", s, got, ok)
		}
	}
}

// P5.3: the same of a Status.
func TestGetStatus(t *testing.T) {
	for _, c := range []struct {
		s    string
		want status
	}{
		{isStatus, stat(1, "a", 1, false, "")},
		{"\x04\x18\x01\x12\x01a\x08\x01", stat(1, "a", 1, false, "")},
		{isStatus + "\x08\x05\x12\x01b\x18\x09", stat(5, "b", 9, false, "")},
		{isStatus + "\x20\x01", stat(1, "a", 1, true, "")},
		{isStatus + "\x20\x01\x20\x00", stat(1, "a", 1, false, "")},
		{isStatus + "\x2a\x01x\x2a\x01y", stat(1, "a", 1, false, "y")},
		{isStatus + "\x2a\x01x\x20\x01\x2a\x00", stat(1, "a", 1, true, "")},
		{isStatus + "\x2a\x01x\x20\x01\x20\x00", stat(1, "a", 1, false, "x")},
		{"\x04\x08\x00\x08\x06" + wire.Number(1, math.MaxUint64) + "\x12\x00\x12\x01*\x18\x00" + isStatus[1:], stat(1, "a", 1, false, "")},
		{isStatus + "\x20\x02\x20\x01", stat(1, "a", 1, true, "")},
		{isStatus + "\x20\x02\x20\x00" + wire.Text(5, longDetail+"x") + "\x2a\x01x", stat(1, "a", 1, false, "x")},
		{isStatus + "\x20\x00\x2a\x00", stat(1, "a", 1, false, "")},
		{isStatus + wire.Number(3, math.MaxUint64), stat(1, "a", math.MaxUint64, false, "")},
		{"\x04" + others + "\x30\x01\x3a\x01x" + isStatus[1:] + others, stat(1, "a", 1, false, "")},
	} {
		if got, ok := message.GetStatus(c.s); got != c.want || !ok {
			t.Errorf("GetStatus(% .80x) = %v, %v, want %v", c.s, got, ok, c.want)
		}
	}
}

// P5.3: the same of a Status.
func TestGetStatusRefuses(t *testing.T) {
	var wrong []string
	for _, more := range []string{
		"\x08\x00", "\x08\x06", wire.Number(1, 1<<32+1), wire.Number(1, 1<<63+1), wire.Number(1, math.MaxUint64),
		"\x12\x00", "\x12\x01*", "\x12\x01A", wire.Text(2, longName+"a"), "\x18\x00",
		"\x20\x02", "\x20\x01\x20\x02", "\x20\x80\x02", wire.Number(4, 1<<32+1), wire.Number(4, 1<<63), wire.Number(4, math.MaxUint64),
		"\x20\x01\x2a\x01x", "\x2a\x01x\x20\x01", wire.Text(5, longDetail+"x"),
		"\x00", "\x08", "\x2a\x02a", "\x40", "\x43",
	} {
		wrong = append(wrong, isStatus+more)
	}
	wrong = append(wrong, "", "\x00", "\x04", isStatus[1:], "\x01"+isStatus[1:], "\x02"+isStatus[1:], "\x03"+isStatus[1:], "\x84"+isStatus[1:],
		"\x04\x12\x01a\x18\x01", "\x04\x08\x01\x18\x01", "\x04\x08\x01\x12\x01a", isStatus[:6], "\x04"+others, isReq, isResp)
	for _, s := range wrong {
		if got, ok := message.GetStatus(s); got != (status{}) || ok {
			t.Errorf("GetStatus(% .80x) = %v, %v, want false", s, got, ok)
		}
	}
}

// P5.3: each field that is named is of its Kind alone, also where another one of its number is the last; all others may be of any.
func TestGetKinds(t *testing.T) {
	// Of each number a field that is right behind own; of some it takes two.
	for _, c := range []struct {
		own   string
		get   func(string) bool
		kinds map[int]int
	}{
		{isReq + "\x18\x01\x10\x01", func(s string) bool { _, ok := message.GetReq(s); return ok }, map[int]int{1: 0, 2: 0, 3: 0, 4: 2, 5: 2, 6: 2, 7: 2}},
		{isResp + "\x10\x01", func(s string) bool { _, ok := message.GetResp(s); return ok }, map[int]int{1: 0, 2: 0, 3: 0, 4: 0, 5: 2, 6: 2, 7: 0}},
		{"\x03\x08\x01", func(s string) bool { _, ok := message.GetPing(s); return ok }, map[int]int{1: 0}},
		{isStatus, func(s string) bool { _, ok := message.GetStatus(s); return ok }, map[int]int{1: 0, 2: 2, 3: 0, 4: 0, 5: 2}},
	} {
		for num := 1; num <= 9; num++ {
			for kind, f := range map[int]wire.Field{
				0: {Num: num, N: 1},
				1: {Num: num, Kind: 1, S: "12345678"},
				2: {Num: num, Kind: 2, S: "a"},
				5: {Num: num, Kind: 5, S: "1234"},
			} {
				if c.own == isResp+"\x10\x01" && num == 5 && kind == 2 {
					f.S = isA
				}
				if c.own[0] == 1 && num == 6 && kind == 2 {
					f.S = "\x0a\x01a"
				}
				s, ok := wire.Put(f)
				if !ok {
					t.Fatal(f)
				}
				own, listed := c.kinds[num]
				want := !listed || own == kind
				for _, whole := range []string{c.own + s, c.own[:1] + s + c.own[1:], c.own + s + c.own[1:]} {
					if got := c.get(whole); got != want {
						t.Errorf("Get(% x) = %v, want %v", whole, got, want)
					}
				}
			}
		}
	}
}
