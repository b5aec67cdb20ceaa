package message_test

import (
	"math/rand"
	"regexp"
	"strings"
	"testing"

	"noria/api"
	"noria/message"
	"noria/resource"
	"noria/wire"
)

var plainName = regexp.MustCompile(`\A[a-z0-9./-]{1,64}\z`)

// plainNames tells whether l is at most 64 names, or stars where these are allowed.
func plainNames(l texts, star bool) bool {
	for _, s := range l {
		if !plainName.MatchString(s) && !(star && s == "*") {
			return false
		}
	}
	return len(l) <= 64
}

func plainRightReq(r req) bool {
	ok := r.Type >= 1 && r.Type <= 5 && plainNames(r.Sub, true) && plainNames(r.Unsub, true) && len(r.Have) <= 64 && len(r.Detail) <= 256
	for _, h := range r.Have {
		ok = ok && plainName.MatchString(h.Name)
	}
	if r.Nonce == 0 {
		ok = ok && r.Detail == ""
	}
	if !r.Delta {
		ok = ok && len(r.Unsub)+len(r.Have) == 0
	}
	return ok
}

func plainRightResp(r resp) bool {
	ok := r.Type >= 1 && r.Type <= 5 && r.Nonce > 0 && len(r.Resources) <= 64 && plainNames(r.Removed, false)
	for _, x := range r.Resources {
		ok = ok && x.Type == r.Type && plainName.MatchString(x.Name) && x.Seq >= 1 && x.Seq <= 1<<62 && !x.Gone && len(x.Body) <= 1024
	}
	if !r.Delta {
		ok = ok && len(r.Removed) == 0 && !r.More
	}
	return ok
}

func plainRightStatus(s status) bool {
	return s.Key.Type >= 1 && s.Key.Type <= 5 && plainName.MatchString(s.Key.Name) && s.Seq > 0 && len(s.Detail) <= 256 && !(s.OK && s.Detail != "")
}

// plain is the fields of a message, as the chapter goes through them: what is wrong with one stays.
type plain struct {
	l  []wire.Field
	ok bool
}

func plainFields(kind byte, s string) plain {
	if s == "" || s[0] != kind {
		return plain{}
	}
	l, ok := wire.Parse(s[1:])
	return plain{l, ok}
}

// each is the fields of that number, all of that Kind.
func (p *plain) each(num, kind int) []wire.Field {
	var l []wire.Field
	for _, f := range p.l {
		if f.Num == num {
			l = append(l, f)
			p.ok = p.ok && f.Kind == kind
		}
	}
	return l
}

// number is the last number, at most that one.
func (p *plain) number(num int, most uint64) uint64 {
	n := uint64(0)
	for _, f := range p.each(num, 0) {
		n = f.N
	}
	p.ok = p.ok && n <= most
	return n
}

func (p *plain) text(num int) string {
	s := ""
	for _, f := range p.each(num, 2) {
		s = f.S
	}
	return s
}

func (p *plain) texts(num int) texts {
	var l texts
	for _, f := range p.each(num, 2) {
		l = append(l, f.S)
	}
	return l
}

const any64 = 1<<64 - 1

func plainGetReq(s string) (req, bool) {
	p := plainFields(1, s)
	r := req{Type: int(p.number(1, 5)), Delta: p.number(2, 1) > 0, Nonce: p.number(3, any64), Sub: p.texts(4), Unsub: p.texts(5), Detail: p.text(7)}
	for _, s := range p.texts(6) {
		h := plainFields('h', "h"+s)
		r.Have = append(r.Have, have{h.text(1), h.number(2, any64)})
		p.ok = p.ok && h.ok
	}
	if !p.ok || !plainRightReq(r) {
		return req{}, false
	}
	return r, true
}

func plainGetResp(s string) (resp, bool) {
	p := plainFields(2, s)
	r := resp{Type: int(p.number(1, 5)), Delta: p.number(2, 1) > 0, Nonce: p.number(3, any64), Version: p.number(4, any64), Removed: p.texts(6), More: p.number(7, 1) > 0}
	for _, s := range p.texts(5) {
		x, ok := resource.Get(s)
		r.Resources = append(r.Resources, x)
		p.ok = p.ok && ok
	}
	if !p.ok || !plainRightResp(r) {
		return resp{}, false
	}
	return r, true
}

func plainGetPing(s string) (uint64, bool) {
	p := plainFields(3, s)
	n := p.number(1, any64)
	if !p.ok {
		return 0, false
	}
	return n, true
}

func plainGetStatus(s string) (status, bool) {
	p := plainFields(4, s)
	x := stat(int(p.number(1, 5)), p.text(2), p.number(3, any64), p.number(4, 1) > 0, p.text(5))
	if !p.ok || !plainRightStatus(x) {
		return status{}, false
	}
	return x, true
}

// oneOf is one of l, mostly of its first half.
func oneOf[T any](r *rand.Rand, l ...T) T {
	if r.Intn(8) > 0 {
		l = l[:(len(l)+1)/2]
	}
	return l[r.Intn(len(l))]
}

// someNames is mostly a few names, and now and then as many as may be, or more.
func someNames(r *rand.Rand) texts {
	if n := r.Intn(200); n < 4 {
		return many(62 + n)
	}
	var l texts
	for range oneOf(r, 0, 0, 1, 2, 3) {
		l = append(l, someName(r))
	}
	return l
}

func someName(r *rand.Rand) string {
	return oneOf(r, "a", "b", "a", "b", "a", "c.d/e-1", longName, "a", "b", "a", "*", "", "A", longName+"a")
}

func someType(r *rand.Rand) int {
	return oneOf(r, 1, 1, 1, 2, 5, 3, 0, 6, -1, 1<<32+1)
}

func someNumber(r *rand.Rand) uint64 {
	return oneOf[uint64](r, 1, 2, 300, 5, 0, 1<<62, 1<<62+1, any64)
}

func someDetail(r *rand.Rand) string {
	return oneOf(r, "", "", "x", "why", longDetail, longDetail+"x")
}

func someReq(r *rand.Rand) req {
	x := req{Type: someType(r), Delta: r.Intn(3) > 0, Nonce: someNumber(r), Sub: someNames(r), Detail: someDetail(r)}
	if x.Delta || r.Intn(8) == 0 {
		x.Unsub = someNames(r)
		for _, name := range someNames(r) {
			x.Have = append(x.Have, have{name, someNumber(r)})
		}
	}
	return x
}

func someResp(r *rand.Rand) resp {
	x := resp{Type: someType(r), Delta: r.Intn(3) > 0, Nonce: someNumber(r), Version: someNumber(r)}
	if x.Delta || r.Intn(8) == 0 {
		x.More, x.Removed = r.Intn(2) == 0, someNames(r)
	}
	for _, name := range someNames(r) {
		kind := x.Type
		if r.Intn(20) == 0 {
			kind = someType(r)
		}
		y := of(kind, name, someNumber(r), oneOf(r, "", "x", "body", strings.Repeat("b", api.MaxBody+1)))
		y.Gone = r.Intn(30) == 0
		x.Resources = append(x.Resources, y)
	}
	return x
}

func someStatus(r *rand.Rand) status {
	return stat(someType(r), someName(r), someNumber(r), r.Intn(2) == 0, someDetail(r))
}

// stirred is s, to which something may be done: a field more, behind, or ahead of the others, or a byte that is turned, or lost.
func stirred(r *rand.Rand, s string) string {
	f := wire.Field{Num: 1 + r.Intn(8), N: oneOf[uint64](r, 1, 1, 0, 5, 2, any64)}
	if r.Intn(2) == 0 {
		f = wire.Field{Num: f.Num, Kind: 2, S: oneOf(r, "", "a", "b", "\x0a\x01a", isA, "A", longDetail)}
	}
	more, _ := wire.Put(f)
	switch r.Intn(6) {
	case 0:
		return s + more
	case 1:
		return s[:1] + more + s[1:]
	case 2:
		b := []byte(s)
		b[r.Intn(len(b))] ^= 1 << r.Intn(8)
		return string(b)
	case 3:
		at := r.Intn(len(s))
		return s[:at] + s[at+1:]
	}
	return s
}

// someText is a message, right or not, of any Kind, to which something may have been done.
func someText(r *rand.Rand) string {
	switch r.Intn(4) {
	case 0:
		return stirred(r, reqFields(someReq(r)))
	case 1:
		return stirred(r, respFields(someResp(r)))
	case 2:
		return stirred(r, message.Ping(someNumber(r)))
	}
	return stirred(r, statusFields(someStatus(r)))
}

// way is how a kind of message is put and got, and how it is got plainly, and which is right.
type way[M any] struct {
	put       func(M) (string, bool)
	get       func(string) (M, bool)
	plainGet  func(string) (M, bool)
	plainIs   func(M) bool
	same      func(a, b M) bool
	firstByte byte
}

var (
	reqWay    = way[req]{message.PutReq, message.GetReq, plainGetReq, plainRightReq, sameReq, 1}
	respWay   = way[resp]{message.PutResp, message.GetResp, plainGetResp, plainRightResp, sameResp, 2}
	pingWay   = way[uint64]{putPing, message.GetPing, plainGetPing, func(uint64) bool { return true }, func(a, b uint64) bool { return a == b }, 3}
	statusWay = way[status]{message.PutStatus, message.GetStatus, plainGetStatus, plainRightStatus, func(a, b status) bool { return a == b }, 4}
)

func putPing(n uint64) (string, bool) { return message.Ping(n), true }

// holdGet holds what is got of s against what is got plainly; what is got is put, and got again. It tells 1, if something was got.
func holdGet[M any](t *testing.T, w way[M], s string) int {
	m, ok := w.get(s)
	if want, is := w.plainGet(s); ok != is || !w.same(m, want) {
		t.Fatalf("% x is got as %v, %v, want %v, %v", s, m, ok, want, is)
	}
	if !ok {
		return 0
	}
	put, ok := w.put(m)
	if again, is := w.get(put); !ok || !is || !w.same(m, again) || !w.plainIs(m) {
		t.Fatalf("%v is put as % x, and got as %v", m, put, again)
	}
	return 1
}

// holdPut holds what m is put as against what is right; what was put is got. It tells 1, if it was put.
func holdPut[M any](t *testing.T, w way[M], m M) int {
	s, ok := w.put(m)
	if ok != w.plainIs(m) || !ok && s != "" {
		t.Fatalf("%v is put as % x, %v", m, s, ok)
	}
	if !ok {
		return 0
	}
	if got, is := w.get(s); !is || !w.same(m, got) || !leastFields(w.firstByte, s) {
		t.Fatalf("%v is put as % x, and got as %v", m, s, got)
	}
	return 1
}

// leastFields tells whether s is of that Kind, and none of its fields is 0, or empty, or behind one of a greater number.
func leastFields(kind byte, s string) bool {
	p := plainFields(kind, s)
	for i, f := range p.l {
		if f.N == 0 && f.S == "" || i > 0 && f.Num < p.l[i-1].Num {
			return false
		}
	}
	return p.ok
}

// P5.3: what is got held against plain ones, whatever comes (P1); what is got is right, is put, and got again (P5.4).
func TestGetPlainly(t *testing.T) {
	r := rand.New(rand.NewSource(1))
	var got [4]int
	for range 100000 {
		s := someText(r)
		got[0] += holdGet(t, reqWay, s)
		got[1] += holdGet(t, respWay, s)
		got[2] += holdGet(t, pingWay, s)
		got[3] += holdGet(t, statusWay, s)
	}
	for i, n := range got {
		if n < 2500 || n > 22500 {
			t.Errorf("%d of kind %d were got", n, i+1)
		}
	}
}

// P5.1, P5.2, P5.4: just what is right is put; what was put is got.
func TestPutPlainly(t *testing.T) {
	r := rand.New(rand.NewSource(2))
	var put [3]int
	for range 50000 {
		a, b := someReq(r), someResp(r)
		if message.RightReq(a) != plainRightReq(a) || message.RightResp(b) != plainRightResp(b) {
			t.Fatalf("%v is right: %v; %v: %v", a, message.RightReq(a), b, message.RightResp(b))
		}
		put[0] += holdPut(t, reqWay, a)
		put[1] += holdPut(t, respWay, b)
		put[2] += holdPut(t, statusWay, someStatus(r))
		holdPut(t, pingWay, r.Uint64()>>r.Intn(65))
	}
	for i, n := range put {
		if n < 5000 || n > 45000 {
			t.Errorf("%d of list %d were put", n, i)
		}
	}
}
