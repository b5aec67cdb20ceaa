package payload_test

import (
	"math/rand"
	"reflect"
	"testing"

	"noria/api"
	"noria/payload"
	"noria/wire"
)

// plainPut is the chapter's Put of what a type has, a field at a time.
func plainPut(kind int, p payload.Payload) string {
	s := plainText(1, p.Name)
	switch kind {
	case api.Listener:
		s += plainCount(2, p.Port) + plainText(3, p.Route)
	case api.Route:
		for _, r := range p.Rules {
			s += wire.Text(4, plainText(1, r.Prefix)+plainText(2, r.Cluster))
		}
	case api.Cluster:
		s += plainCount(5, p.Policy) + plainText(6, p.Secret)
	case api.Endpoint:
		for _, a := range p.Addrs {
			s += wire.Text(7, plainText(1, a.Host)+plainCount(2, a.Port)+plainCount(3, a.Weight))
		}
	case api.Secret:
		s += plainText(8, p.Key)
	}
	return s
}

func plainText(num int, s string) string {
	if s == "" {
		return ""
	}
	return wire.Text(num, s)
}

func plainCount(num int, n uint64) string {
	if n == 0 {
		return ""
	}
	return wire.Number(num, n)
}

// plainGet is the chapter's Get, field by field from its list.
func plainGet(kind int, s string) (p payload.Payload, ok bool) {
	l, ok := wire.Parse(s)
	if !ok {
		return payload.Payload{}, false
	}
	right := plainLast(l, 1, 2, func(f wire.Field) { p.Name = f.S })
	switch kind {
	case api.Listener:
		right = plainLast(l, 2, 0, func(f wire.Field) { p.Port = f.N }) && right
		right = plainLast(l, 3, 2, func(f wire.Field) { p.Route = f.S }) && right
	case api.Route:
		right = plainItems(l, 4, func(in []wire.Field) bool {
			var r payload.Rule
			first := plainLast(in, 1, 2, func(f wire.Field) { r.Prefix = f.S })
			second := plainLast(in, 2, 2, func(f wire.Field) { r.Cluster = f.S })
			p.Rules = append(p.Rules, r)
			return first && second
		}) && right
	case api.Cluster:
		right = plainLast(l, 5, 0, func(f wire.Field) { p.Policy = f.N }) && right
		right = plainLast(l, 6, 2, func(f wire.Field) { p.Secret = f.S }) && right
	case api.Endpoint:
		right = plainItems(l, 7, func(in []wire.Field) bool {
			var a payload.Addr
			first := plainLast(in, 1, 2, func(f wire.Field) { a.Host = f.S })
			second := plainLast(in, 2, 0, func(f wire.Field) { a.Port = f.N })
			third := plainLast(in, 3, 0, func(f wire.Field) { a.Weight = f.N })
			p.Addrs = append(p.Addrs, a)
			return first && second && third
		}) && right
	case api.Secret:
		right = plainLast(l, 8, 2, func(f wire.Field) { p.Key = f.S }) && right
	default:
		right = false
	}
	if !right {
		return payload.Payload{}, false
	}
	return p, true
}

// plainLast hands on the last field of that Num; false, if one of them is of another Kind.
func plainLast(l []wire.Field, num, kind int, take func(wire.Field)) bool {
	for _, f := range wire.All(l, num) {
		if f.Kind != kind {
			return false
		}
	}
	if f, ok := wire.Last(l, num); ok {
		take(f)
	}
	return true
}

// plainItems hands on all fields of that Num, parsed; false, if one can't be, or there are too many.
func plainItems(l []wire.Field, num int, take func([]wire.Field) bool) bool {
	all := wire.All(l, num)
	for _, f := range all {
		in, ok := wire.Parse(f.S)
		if f.Kind != 2 || !ok || !take(in) {
			return false
		}
	}
	return len(all) <= api.MaxItems
}

func someText(r *rand.Rand) string {
	return []string{"", "", "a", "/", "\x00", "\xff\x80", "\x0a\x01a", "a name that is longer"}[r.Intn(8)]
}

func someCount(r *rand.Rand) uint64 {
	return []uint64{0, 0, 1, 127, 128, 65535, 1 << 32, 1<<64 - 1}[r.Intn(8)]
}

func someMany(r *rand.Rand) int {
	return []int{0, 1, 2, 3, 63, 64}[r.Intn(6)]
}

// somePayload is a payload that a type has, or nearly so.
func somePayload(r *rand.Rand, kind int) payload.Payload {
	p := payload.Payload{Name: someText(r)}
	switch kind {
	case api.Listener:
		p.Port, p.Route = someCount(r), someText(r)
	case api.Route:
		for range someMany(r) {
			p.Rules = append(p.Rules, payload.Rule{Prefix: someText(r), Cluster: someText(r)})
		}
	case api.Cluster:
		p.Policy, p.Secret = someCount(r), someText(r)
	case api.Endpoint:
		for range someMany(r) {
			p.Addrs = append(p.Addrs, payload.Addr{Host: someText(r), Port: someCount(r), Weight: someCount(r)})
		}
	case api.Secret:
		p.Key = someText(r)
	}
	return p
}

// P2.4: what was put is got.
func TestPutIsGot(t *testing.T) {
	r := rand.New(rand.NewSource(2))
	for range 5000 {
		kind := 1 + r.Intn(api.Types)
		p := somePayload(r, kind)
		s, ok := payload.Put(kind, p)
		if want := plainPut(kind, p); s != want || !ok {
			t.Fatalf("Put(%d, %v) = % x, %v, want % x", kind, p, s, ok, want)
		}
		if got, ok := payload.Get(kind, s); !reflect.DeepEqual(got, p) || !ok {
			t.Fatalf("Get(%d, % x) = %v, %v, want %v", kind, s, got, ok, p)
		}
	}
}

// laid is what is got of a with b behind it: b's fields count where it has them, lists go on.
func laid(a, b payload.Payload) payload.Payload {
	for _, x := range []struct{ into, from *string }{{&a.Name, &b.Name}, {&a.Route, &b.Route}, {&a.Secret, &b.Secret}, {&a.Key, &b.Key}} {
		if *x.from != "" {
			*x.into = *x.from
		}
	}
	if b.Port != 0 {
		a.Port = b.Port
	}
	if b.Policy != 0 {
		a.Policy = b.Policy
	}
	a.Rules = append(a.Rules, b.Rules...)
	a.Addrs = append(a.Addrs, b.Addrs...)
	return a
}

// P2.4: what stands behind it counts.
func TestPutBehindPut(t *testing.T) {
	r := rand.New(rand.NewSource(3))
	refused := 0
	for range 5000 {
		kind := 1 + r.Intn(api.Types)
		a, b := somePayload(r, kind), somePayload(r, kind)
		one, _ := payload.Put(kind, a)
		two, _ := payload.Put(kind, b)
		want, is := laid(a, b), true
		if len(want.Rules) > api.MaxItems || len(want.Addrs) > api.MaxItems {
			want, is = payload.Payload{}, false
			refused++
		}
		if got, ok := payload.Get(kind, one+two); !payload.Same(got, want) || ok != is {
			t.Fatalf("Get(%d, % x, % x) = %v, %v, want %v, %v", kind, one, two, got, ok, want, is)
		}
	}
	if refused == 0 {
		t.Error("none had too many items")
	}
}

// someBytes is fields as they may come: of a payload, and of others, some with a byte that was turned.
func someBytes(r *rand.Rand, kind int) string {
	b := []byte(plainPut(kind, somePayload(r, kind)))
	for range r.Intn(4) {
		num, s := 1+r.Intn(9), plainPut(1+r.Intn(api.Types), somePayload(r, 1+r.Intn(api.Types)))
		b = append(b, []string{wire.Number(num, someCount(r)), wire.Text(num, s), s, someField(num, 5), someField(num, 1)}[r.Intn(5)]...)
	}
	if len(b) > 0 && r.Intn(3) == 0 {
		b[r.Intn(len(b))] ^= 1 << r.Intn(8)
	}
	return string(b)
}

// P2.2: held against a plain Get; whatever comes, no call panics (P1).
func TestGetPlainly(t *testing.T) {
	r := rand.New(rand.NewSource(4))
	got, refused := 0, 0
	for range 100000 {
		kind := r.Intn(api.Types + 2)
		s := someBytes(r, 1+r.Intn(api.Types))
		p, ok := payload.Get(kind, s)
		want, is := plainGet(kind, s)
		if !reflect.DeepEqual(p, want) || ok != is {
			t.Fatalf("Get(%d, % x) = %v, %v, want %v, %v", kind, s, p, ok, want, is)
		}
		if ok {
			got++
		} else {
			refused++
		}
	}
	if got < 20000 || refused < 20000 {
		t.Errorf("%d were got, %d were refused", got, refused)
	}
}
