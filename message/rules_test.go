package message_test

import (
	"reflect"
	"strings"
	"testing"
	"unsafe"

	"noria/api"
	"noria/message"
)

// fullReq and fullResp have something in each of their fields, and what is wrong behind their lists, in their arrays.

func fullReq() req {
	return req{Type: 1, Delta: true, Nonce: 7, Sub: texts{"a", "b", "BEHIND"}[:2], Unsub: texts{"c", "d", "BEHIND"}[:2],
		Have: []have{{"e", 1}, {"f", 2}, {"BEHIND", 3}}[:2], Detail: "why"}
}

func fullResp() resp {
	return resp{Type: 1, Delta: true, More: true, Nonce: 7, Version: 8,
		Resources: list{of(1, "a", 1, "x"), of(1, "b", 2, "y"), of(9, "BEHIND", 3, "z")}[:2], Removed: texts{"c", "d", "BEHIND"}[:2]}
}

// P3: what is handed in stays, and what stands behind it counts for nothing.
func TestListsStay(t *testing.T) {
	a, b := fullReq(), fullResp()
	if !message.RightReq(a) || !message.RightResp(b) {
		t.Error("what stands behind counts")
	}
	s, ok := message.PutReq(a)
	if !ok || strings.Contains(s, "BEHIND") {
		t.Errorf("put as %q", s)
	}
	s, ok = message.PutResp(b)
	if !ok || strings.Contains(s, "BEHIND") {
		t.Errorf("put as %q", s)
	}
	wide := func(a req, b resp) (req, resp) {
		a.Sub, a.Unsub, a.Have = a.Sub[:3], a.Unsub[:3], a.Have[:3]
		b.Resources, b.Removed = b.Resources[:3], b.Removed[:3]
		return a, b
	}
	a, b = wide(a, b)
	wantA, wantB := wide(fullReq(), fullResp())
	if !reflect.DeepEqual(a, wantA) || !reflect.DeepEqual(b, wantB) {
		t.Errorf("became %v, %v", a, b)
	}
}

// fill writes over a list, with its spare room.
func fill[T any](l []T, with T) {
	l = l[:cap(l)]
	for i := range l {
		l[i] = with
	}
}

// P3: lists that are got are new, with their spare room: what is written there is seen nowhere else.
func TestListsAreNew(t *testing.T) {
	s, _ := message.PutReq(fullReq())
	// Each list in turn: those of the same answer stay, too.
	for i := range 3 {
		one, _ := message.GetReq(s)
		two, _ := message.GetReq(s)
		want := fullReq()
		switch i {
		case 0:
			fill(one.Sub, "scribbled")
			want.Sub = one.Sub
		case 1:
			fill(one.Unsub, "scribbled")
			want.Unsub = one.Unsub
		case 2:
			fill(one.Have, have{"scribbled", 9})
			want.Have = one.Have
		}
		if three, _ := message.GetReq(s); !sameReq(one, want) || !sameReq(two, fullReq()) || !sameReq(three, fullReq()) {
			t.Errorf("shared: %v, %v, %v", one, two, three)
		}
	}
	s, _ = message.PutResp(fullResp())
	for i := range 2 {
		one, _ := message.GetResp(s)
		two, _ := message.GetResp(s)
		want := fullResp()
		switch i {
		case 0:
			fill(one.Resources, of(9, "scribbled", 9, "scribbled"))
			want.Resources = one.Resources
		case 1:
			fill(one.Removed, "scribbled")
			want.Removed = one.Removed
		}
		if three, _ := message.GetResp(s); !sameResp(one, want) || !sameResp(two, fullResp()) || !sameResp(three, fullResp()) {
			t.Errorf("shared: %v, %v, %v", one, two, three)
		}
	}
}

// P3: what is got does not keep the bytes it came in.
func TestTextsAreNotKept(t *testing.T) {
	stands := func(x, s string) bool {
		from, at := uintptr(unsafe.Pointer(unsafe.StringData(s))), uintptr(unsafe.Pointer(unsafe.StringData(x)))
		return at >= from && at < from+uintptr(len(s))
	}
	s, _ := message.PutReq(fullReq())
	a, _ := message.GetReq(s)
	for _, x := range []string{a.Sub[0], a.Unsub[0], a.Have[0].Name, a.Detail} {
		if stands(x, s) {
			t.Errorf("%q stands in what it was got from", x)
		}
	}
	s, _ = message.PutResp(fullResp())
	b, _ := message.GetResp(s)
	for _, x := range []string{b.Resources[0].Name, b.Resources[0].Body, b.Removed[0]} {
		if stands(x, s) {
			t.Errorf("%q stands in what it was got from", x)
		}
	}
	s, _ = message.PutStatus(stat(1, "name", 1, false, "detail"))
	c, _ := message.GetStatus(s)
	for _, x := range []string{c.Key.Name, c.Detail} {
		if stands(x, s) {
			t.Errorf("%q stands in what it was got from", x)
		}
	}
}

// answers is all that is told of a text.
type answers struct {
	kind           int
	req            req
	resp           resp
	ping           uint64
	status         status
	is1, is2, is3  bool
	is4            bool
	put1, put2, p4 string
}

func tell(s string) answers {
	a := answers{kind: message.Kind(s)}
	a.req, a.is1 = message.GetReq(s)
	a.resp, a.is2 = message.GetResp(s)
	a.ping, a.is3 = message.GetPing(s)
	a.status, a.is4 = message.GetStatus(s)
	a.put1, _ = message.PutReq(a.req)
	a.put2, _ = message.PutResp(a.resp)
	a.p4, _ = message.PutStatus(a.status)
	return a
}

func someMessages() []string {
	l := []string{"", "\x00", "\x01", isReq, isResp, isStatus, "\x03", "\x03\x08\x05", isReq + "\x10\x02"}
	for _, r := range rightReqs {
		l = append(l, reqFields(r))
	}
	for _, r := range rightResps {
		l = append(l, respFields(r))
	}
	for _, s := range rightStatuses {
		l = append(l, statusFields(s))
	}
	return l
}

// P4: the same is answered to the same, not by the order of a map, whatever was asked between.
func TestSameAnswers(t *testing.T) {
	l := someMessages()
	var before []answers
	for _, s := range l {
		before = append(before, tell(s))
	}
	for range 20 {
		for i, s := range l {
			if got := tell(s); !reflect.DeepEqual(got, before[i]) {
				t.Fatalf("% .80x: another answer", s)
			}
		}
	}
}

// P1: at all arguments there is an answer, also to texts and lists of nothing, or great ones.
func TestEveryCallEnds(t *testing.T) {
	for b := range 256 {
		one := string([]byte{byte(b)})
		for _, s := range []string{one, one + one, isReq + one, one + isReq, isResp + one, isStatus + one, "\x03" + one, strings.Repeat(one, 1<<16)} {
			for kind := range 5 {
				whole := string([]byte{byte(kind)}) + s
				if got := tell(whole); got.kind != kind {
					t.Errorf("Kind(% .80x) = %d", whole, got.kind)
				}
			}
			tell(s)
		}
	}
	great := strings.Repeat("a", 1<<20)
	for _, s := range []string{strings.Repeat("\x22\x01a", 1<<18), strings.Repeat("\x10\x01", 1<<18), strings.Repeat("\x42\x01a", 1<<18)} {
		for _, m := range []string{isReq, isResp, isStatus, "\x03"} {
			tell(m + s)
		}
	}
	if message.RightReq(req{Type: 1, Sub: texts{great}}) || message.RightReq(req{Type: 1, Sub: many(1 << 16)}) ||
		message.RightReq(req{Type: 1, Nonce: 1, Detail: great}) || message.RightResp(resp{Type: 1, Nonce: 1, Resources: list{of(1, "a", 1, great)}}) {
		t.Error("a great one is right")
	}
	if s, ok := message.PutStatus(status{Key: api.Key{Type: 1, Name: great}, Seq: 1, Detail: great}); s != "" || ok {
		t.Error("a great one was put")
	}
}

// P4: calls at one time don't meet one another.
func TestAtOneTime(t *testing.T) {
	l := someMessages()
	want := make([]answers, len(l))
	for i, s := range l {
		want[i] = tell(s)
	}
	done := make(chan int)
	for range 8 {
		go func() {
			wrong := 0
			for range 20 {
				for i, s := range l {
					if !reflect.DeepEqual(tell(s), want[i]) {
						wrong++
					}
				}
			}
			done <- wrong
		}()
	}
	for range 8 {
		if wrong := <-done; wrong > 0 {
			t.Errorf("%d answers were others", wrong)
		}
	}
}
