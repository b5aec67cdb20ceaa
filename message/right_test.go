package message_test

import (
	"math"
	"reflect"
	"strconv"
	"strings"
	"testing"

	"noria/api"
	"noria/message"
	"noria/wire"
)

// Short names of the types, that the tables are the shorter.
type (
	req    = message.Req
	resp   = message.Resp
	status = message.Status
	have   = message.Have
	list   = []api.Resource
	texts  = []string
)

var (
	longName   = strings.Repeat("a", api.MaxName)
	longDetail = strings.Repeat("\xff", api.MaxDetail)
)

// many is n names, each another one.
func many(n int) texts {
	l := make(texts, n)
	for i := range l {
		l[i] = "n" + strconv.Itoa(i)
	}
	return l
}

func manyHave(n int) []have {
	var l []have
	for i, name := range many(n) {
		l = append(l, have{name, uint64(i)})
	}
	return l
}

func manyOf(kind, n int) list {
	var l list
	for i, name := range many(n) {
		l = append(l, of(kind, name, uint64(i+1), "b"))
	}
	return l
}

// of is a version of a key.
func of(kind int, name string, seq uint64, body string) api.Resource {
	return api.Resource{Key: api.Key{Type: kind, Name: name}, Seq: seq, Body: body}
}

func stat(kind int, name string, seq uint64, ok bool, detail string) status {
	return status{Key: api.Key{Type: kind, Name: name}, Seq: seq, OK: ok, Detail: detail}
}

// allButLast is n names, of which the last is wrong.
func allButLast(n int, wrong string) texts { return append(many(n-1), wrong) }

var rightReqs = []req{
	{Type: 1},
	{Type: 2},
	{Type: 5},
	{Type: 1, Delta: true},
	{Type: 1, Nonce: 1},
	{Type: 1, Nonce: math.MaxUint64},
	{Type: 1, Sub: texts{"a"}},
	{Type: 1, Sub: texts{"*"}},
	{Type: 1, Sub: texts{"a", "*", "b/c.d-9", longName, "*", "a"}},
	{Type: 1, Sub: many(64)},
	{Type: 1, Sub: allButLast(64, "*")},
	{Type: 1, Sub: texts{}, Unsub: texts{}, Have: []have{}},
	{Type: 1, Delta: true, Sub: many(64), Unsub: many(64), Have: manyHave(64)},
	{Type: 1, Delta: true, Unsub: texts{"a"}},
	{Type: 1, Delta: true, Unsub: texts{"*"}},
	{Type: 1, Delta: true, Unsub: texts{longName, "*", "a", "a"}},
	{Type: 1, Delta: true, Unsub: allButLast(64, "*")},
	{Type: 1, Delta: true, Have: []have{{"a", 0}}},
	{Type: 1, Delta: true, Have: []have{{"a", 1}, {"a", 1}, {longName, math.MaxUint64}, {"b", 1 << 62}, {"c", 1<<62 + 1}}},
	{Type: 1, Delta: true, Sub: texts{"a"}, Unsub: texts{"a"}, Have: []have{{"a", 3}}},
	{Type: 1, Nonce: 1, Detail: "x"},
	{Type: 1, Nonce: 1, Detail: longDetail},
	{Type: 1, Nonce: math.MaxUint64, Detail: "\x00"},
	{Type: 3, Delta: true, Nonce: 300, Sub: texts{"a", "b"}, Unsub: texts{"c", "*"}, Have: []have{{"d", 0}, {"e", 5}}, Detail: "why"},
}

// wrongReqs are each wrong for one thing alone, but the last few.
var wrongReqs = []req{
	{Type: 0, Sub: texts{"a"}},
	{Type: 6},
	{Type: -1},
	{Type: 1<<8 + 1},
	{Type: 1<<32 + 1},
	{Type: math.MaxInt},
	{Type: math.MinInt},
	{Type: math.MinInt + 1},
	{Type: 1, Sub: many(65)},
	{Type: 1, Delta: true, Sub: many(65)},
	{Type: 1, Sub: texts{""}},
	{Type: 1, Sub: texts{"a", ""}},
	{Type: 1, Sub: texts{"A"}},
	{Type: 1, Sub: texts{"**"}},
	{Type: 1, Sub: texts{"a*"}},
	{Type: 1, Sub: texts{longName + "a"}},
	{Type: 1, Sub: texts{"A", "a"}},
	{Type: 1, Sub: allButLast(64, " ")},
	{Type: 1, Unsub: texts{"a"}},
	{Type: 1, Unsub: texts{"*"}},
	{Type: 1, Delta: true, Unsub: many(65)},
	{Type: 1, Delta: true, Unsub: texts{""}},
	{Type: 1, Delta: true, Unsub: texts{"a", "\xff"}},
	{Type: 1, Delta: true, Unsub: texts{"**"}},
	{Type: 1, Delta: true, Unsub: texts{longName + "a"}},
	{Type: 1, Delta: true, Unsub: allButLast(64, "_")},
	{Type: 1, Have: []have{{"a", 1}}},
	{Type: 1, Have: []have{{"a", 0}}},
	{Type: 1, Delta: true, Have: manyHave(65)},
	{Type: 1, Delta: true, Have: []have{{"", 1}}},
	{Type: 1, Delta: true, Have: []have{{"*", 1}}},
	{Type: 1, Delta: true, Have: []have{{"a", 1}, {"B", 1}}},
	{Type: 1, Delta: true, Have: []have{{longName + "a", 1}}},
	{Type: 1, Delta: true, Have: append(manyHave(63), have{"*", 1})},
	{Type: 1, Nonce: 1, Detail: longDetail + "x"},
	{Type: 1, Detail: "x"},
	{Type: 1, Delta: true, Detail: "\x00"},
	{},
	{Delta: true},
	{Type: 6, Sub: texts{""}, Unsub: texts{"A"}, Have: []have{{}}, Detail: longDetail + "x"},
}

// P5.1: which Req is right.
func TestRightReq(t *testing.T) {
	for _, r := range rightReqs {
		if !message.RightReq(r) {
			t.Errorf("RightReq(%v) = false", r)
		}
	}
	for _, r := range wrongReqs {
		if message.RightReq(r) {
			t.Errorf("RightReq(%v) = true", r)
		}
	}
}

var rightResps = []resp{
	{Type: 1, Nonce: 1},
	{Type: 5, Nonce: math.MaxUint64},
	{Type: 1, Nonce: 1, Delta: true},
	{Type: 1, Nonce: 1, Delta: true, More: true},
	{Type: 1, Nonce: 1, Version: 1},
	{Type: 1, Nonce: 1, Version: math.MaxUint64},
	{Type: 1, Nonce: 1, Resources: list{of(1, "a", 1, "")}},
	{Type: 2, Nonce: 1, Resources: list{of(2, "a", 1<<62, "x"), of(2, "a", 1, "\x00"), of(2, longName, 5, strings.Repeat("b", api.MaxBody))}},
	{Type: 5, Nonce: 1, Resources: manyOf(5, 64)},
	{Type: 1, Nonce: 1, Resources: list{}, Removed: texts{}},
	{Type: 1, Nonce: 1, Delta: true, Removed: texts{"a"}},
	{Type: 1, Nonce: 1, Delta: true, Removed: texts{"a", "a", longName, "-"}},
	{Type: 1, Nonce: 1, Delta: true, Removed: many(64)},
	{Type: 1, Nonce: 1, Delta: true, Resources: manyOf(1, 64), Removed: many(64), More: true},
	{Type: 4, Delta: true, More: true, Nonce: 300, Version: 7, Resources: list{of(4, "b", 7, "x"), of(4, "a", 6, "")}, Removed: texts{"d", "c"}},
}

// wrongResps are each wrong for one thing alone, but the last few.
var wrongResps = []resp{
	{Type: 0, Nonce: 1},
	{Type: 6, Nonce: 1},
	{Type: 6, Nonce: 1, Resources: list{of(6, "a", 1, "")}},
	{Type: -1, Nonce: 1},
	{Type: 1<<8 + 1, Nonce: 1},
	{Type: 1<<32 + 1, Nonce: 1},
	{Type: math.MaxInt, Nonce: 1},
	{Type: math.MinInt, Nonce: 1},
	{Type: math.MinInt + 1, Nonce: 1},
	{Type: 1, Nonce: 0},
	{Type: 1, Nonce: 0, Delta: true, Version: 1},
	{Type: 1, Nonce: 1, More: true},
	{Type: 1, Nonce: 1, Resources: manyOf(1, 65)},
	{Type: 1, Nonce: 1, Delta: true, Resources: manyOf(1, 65)},
	{Type: 1, Nonce: 1, Resources: list{of(2, "a", 1, "")}},
	{Type: 1, Nonce: 1, Resources: list{of(1, "a", 1, ""), of(2, "b", 1, "")}},
	{Type: 1, Nonce: 1, Resources: list{of(0, "a", 1, "")}},
	{Type: 1, Nonce: 1, Resources: list{of(1, "*", 1, "")}},
	{Type: 1, Nonce: 1, Resources: list{of(1, "", 1, "")}},
	{Type: 1, Nonce: 1, Resources: list{of(1, "a", 0, "")}},
	{Type: 1, Nonce: 1, Resources: list{of(1, "a", 1<<62+1, "")}},
	{Type: 1, Nonce: 1, Resources: list{of(1, "a", 1, strings.Repeat("b", api.MaxBody+1))}},
	{Type: 1, Nonce: 1, Resources: list{{Key: api.Key{Type: 1, Name: "a"}, Seq: 1, Gone: true}}},
	{Type: 1, Nonce: 1, Delta: true, Resources: list{of(1, "a", 1, ""), {Key: api.Key{Type: 1, Name: "b"}, Seq: 1, Gone: true}}},
	{Type: 1, Nonce: 1, Resources: append(manyOf(1, 63), of(1, "A", 1, ""))},
	{Type: 1, Nonce: 1, Removed: texts{"a"}},
	{Type: 1, Nonce: 1, Delta: true, Removed: many(65)},
	{Type: 1, Nonce: 1, Delta: true, Removed: texts{""}},
	{Type: 1, Nonce: 1, Delta: true, Removed: texts{"*"}},
	{Type: 1, Nonce: 1, Delta: true, Removed: texts{"a", "A"}},
	{Type: 1, Nonce: 1, Delta: true, Removed: texts{longName + "a"}},
	{Type: 1, Nonce: 1, Delta: true, Removed: allButLast(64, "*")},
	{},
	{Nonce: 1},
	{Type: 1},
	{Type: 1, More: true, Resources: list{{}}, Removed: texts{""}},
}

// P5.1: which Resp is right.
func TestRightResp(t *testing.T) {
	for _, r := range rightResps {
		if !message.RightResp(r) {
			t.Errorf("RightResp(%v) = false", r)
		}
	}
	for _, r := range wrongResps {
		if message.RightResp(r) {
			t.Errorf("RightResp(%v) = true", r)
		}
	}
}

var rightStatuses = []status{
	stat(1, "a", 1, false, ""),
	stat(1, "a", 1, true, ""),
	stat(5, longName, 1<<62, true, ""),
	stat(5, "a", 1<<62+1, false, ""),
	stat(3, "b/c.d-9", math.MaxUint64, true, ""),
	stat(1, "a", 1, false, "x"),
	stat(1, "a", 300, false, longDetail),
	stat(2, "a", 1, false, "\x00"),
}

// wrongStatuses are each wrong for one thing alone, but the last few.
var wrongStatuses = []status{
	stat(0, "a", 1, true, ""),
	stat(6, "a", 1, true, ""),
	stat(-1, "a", 1, true, ""),
	stat(1<<8+1, "a", 1, true, ""),
	stat(1<<32+1, "a", 1, true, ""),
	stat(math.MaxInt, "a", 1, false, ""),
	stat(math.MinInt, "a", 1, false, ""),
	stat(math.MinInt+1, "a", 1, false, ""),
	stat(1, "", 1, true, ""),
	stat(1, "*", 1, true, ""),
	stat(1, "*", 1, false, "x"),
	stat(1, "**", 1, true, ""),
	stat(1, "A", 1, true, ""),
	stat(1, longName+"a", 1, true, ""),
	stat(1, "a", 0, true, ""),
	stat(1, "a", 0, false, "x"),
	stat(1, "a", 1, false, longDetail+"x"),
	stat(1, "a", 1, true, "x"),
	stat(1, "a", 1, true, "\x00"),
	stat(1, "a", 1, true, longDetail),
	{},
	stat(1, "a", 0, true, longDetail+"x"),
	stat(0, "*", 0, true, "x"),
}

// flag is a field of 1; nothing, if it is not so.
func flag(num int, is bool) string {
	if is {
		return wire.Number(num, 1)
	}
	return ""
}

// The fields of a message, all of them, right or not, be they 0, or empty.

func reqFields(r req) string {
	s := "\x01" + wire.Number(1, uint64(r.Type)) + flag(2, r.Delta) + wire.Number(3, r.Nonce)
	for _, name := range r.Sub {
		s += wire.Text(4, name)
	}
	for _, name := range r.Unsub {
		s += wire.Text(5, name)
	}
	for _, h := range r.Have {
		s += wire.Text(6, wire.Text(1, h.Name)+wire.Number(2, h.Seq))
	}
	return s + wire.Text(7, r.Detail)
}

func respFields(r resp) string {
	s := "\x02" + wire.Number(1, uint64(r.Type)) + flag(2, r.Delta) + wire.Number(3, r.Nonce) + wire.Number(4, r.Version)
	for _, x := range r.Resources {
		s += wire.Text(5, wire.Number(1, uint64(x.Type))+wire.Text(2, x.Name)+wire.Number(3, x.Seq)+flag(4, x.Gone)+wire.Text(5, x.Body))
	}
	for _, name := range r.Removed {
		s += wire.Text(6, name)
	}
	return s + flag(7, r.More)
}

func statusFields(s status) string {
	return "\x04" + wire.Number(1, uint64(s.Key.Type)) + wire.Text(2, s.Key.Name) + wire.Number(3, s.Seq) + flag(4, s.OK) + wire.Text(5, s.Detail)
}

// Whether two messages are the same, where a list of nothing may be nil or empty.

func sameReq(a, b req) bool {
	return reflect.DeepEqual(plainlyEmptyReq(a), plainlyEmptyReq(b))
}

func sameResp(a, b resp) bool {
	return reflect.DeepEqual(plainlyEmptyResp(a), plainlyEmptyResp(b))
}

func plainlyEmptyReq(r req) req {
	r.Sub, r.Unsub, r.Have = append(texts{}, r.Sub...), append(texts{}, r.Unsub...), append([]have{}, r.Have...)
	return r
}

func plainlyEmptyResp(r resp) resp {
	r.Resources, r.Removed = append(list{}, r.Resources...), append(texts{}, r.Removed...)
	return r
}

// isNoReq tells whether r is what stands beside a false.
func isNoReq(r req) bool { return sameReq(r, req{}) }

func isNoResp(r resp) bool { return sameResp(r, resp{}) }

// P5.1, P5.3: what is not right is not put, and not got, however it is put; nothing is told then (P2).
func TestWrongOnesAreRefused(t *testing.T) {
	for _, r := range wrongReqs {
		if s, ok := message.PutReq(r); s != "" || ok {
			t.Errorf("PutReq(%v) = % x, %v", r, s, ok)
		}
		if got, ok := message.GetReq(reqFields(r)); !isNoReq(got) || ok {
			t.Errorf("GetReq(fields of %v) = %v, %v", r, got, ok)
		}
	}
	for _, r := range wrongResps {
		if s, ok := message.PutResp(r); s != "" || ok {
			t.Errorf("PutResp(%v) = % x, %v", r, s, ok)
		}
		if got, ok := message.GetResp(respFields(r)); !isNoResp(got) || ok {
			t.Errorf("GetResp(fields of %v) = %v, %v", r, got, ok)
		}
	}
	for _, s := range wrongStatuses {
		if put, ok := message.PutStatus(s); put != "" || ok {
			t.Errorf("PutStatus(%v) = % x, %v", s, put, ok)
		}
		if got, ok := message.GetStatus(statusFields(s)); got != (status{}) || ok {
			t.Errorf("GetStatus(fields of %v) = %v, %v", s, got, ok)
		}
	}
}

// P5.2 to P5.4: what is right is put, and got again, and got also of fields that are 0, or empty.
func TestRightOnesAreGot(t *testing.T) {
	for _, r := range rightReqs {
		s, ok := message.PutReq(r)
		for _, whole := range []string{s, reqFields(r)} {
			if got, is := message.GetReq(whole); !sameReq(got, r) || !ok || !is || message.Kind(s) != 1 {
				t.Errorf("GetReq(% x) = %v, %v, want %v", whole, got, is, r)
			}
		}
	}
	for _, r := range rightResps {
		s, ok := message.PutResp(r)
		for _, whole := range []string{s, respFields(r)} {
			if got, is := message.GetResp(whole); !sameResp(got, r) || !ok || !is || message.Kind(s) != 2 {
				t.Errorf("GetResp(% x) = %v, %v, want %v", whole, got, is, r)
			}
		}
	}
	for _, n := range []uint64{0, 1, 5, 127, 128, 300, 1 << 62, 1 << 63, math.MaxUint64} {
		s := message.Ping(n)
		for _, whole := range []string{s, "\x03" + wire.Number(1, n)} {
			if got, ok := message.GetPing(whole); got != n || !ok || message.Kind(s) != 3 {
				t.Errorf("GetPing(% x) = %d, %v, want %d", whole, got, ok, n)
			}
		}
	}
	for _, x := range rightStatuses {
		s, ok := message.PutStatus(x)
		for _, whole := range []string{s, statusFields(x)} {
			if got, is := message.GetStatus(whole); got != x || !ok || !is || message.Kind(s) != 4 {
				t.Errorf("GetStatus(% x) = %v, %v, want %v", whole, got, is, x)
			}
		}
	}
}
