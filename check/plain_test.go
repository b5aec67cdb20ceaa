package check_test

import (
	"math/big"
	"math/rand"
	"regexp"
	"strings"
	"testing"

	"noria/api"
	"noria/check"
	"noria/payload"
)

var plainName = regexp.MustCompile(`\A[a-z0-9./-]{1,64}\z`)

// plainBody is the chapter's Body, a word at a time.
func plainBody(k api.Key, body string) string {
	p, ok := payload.Get(k.Type, body)
	switch {
	case len(body) > 1024:
		return "size"
	case !ok:
		return "form"
	case p.Name != k.Name:
		return "name"
	case k.Type == 1 && (p.Port == 0 || p.Port > 65535):
		return "port"
	case k.Type == 1 && !plainName.MatchString(p.Route):
		return "route"
	case k.Type == 2 && len(p.Rules) == 0:
		return "rules"
	case k.Type == 2:
		return plainRules(p.Rules)
	case k.Type == 3 && p.Policy > 2:
		return "policy"
	case k.Type == 3 && p.Secret != "" && !plainName.MatchString(p.Secret):
		return "secret"
	case k.Type == 4:
		return plainAddrs(p.Addrs)
	case k.Type == 5 && (len(p.Key) < 16 || len(p.Key) > 64):
		return "key"
	}
	return ""
}

func plainRules(l []payload.Rule) string {
	for i, r := range l {
		wrong := len(r.Prefix) == 0 || r.Prefix[0] != '/' || !plainName.MatchString(r.Cluster)
		for j := range i {
			e := l[j].Prefix
			wrong = wrong || len(e) <= len(r.Prefix) && r.Prefix[:len(e)] == e
		}
		if wrong {
			return "rule " + big.NewInt(int64(i)).String()
		}
	}
	return ""
}

func plainAddrs(l []payload.Addr) string {
	sum := new(big.Int)
	for i, a := range l {
		wrong := a.Port == 0 || a.Port > 65535 || !plainName.MatchString(a.Host)
		for j := range i {
			wrong = wrong || l[j].Host == a.Host && l[j].Port == a.Port
		}
		if wrong {
			return "addr " + big.NewInt(int64(i)).String()
		}
		sum.Add(sum, new(big.Int).SetUint64(a.Weight))
	}
	if sum.BitLen() > 32 {
		return "weight"
	}
	return ""
}

// oneOf is one of l, mostly of its first few.
func oneOf[T any](r *rand.Rand, l ...T) T {
	if r.Intn(4) > 0 {
		l = l[:(len(l)+1)/2]
	}
	return l[r.Intn(len(l))]
}

func someName(r *rand.Rand) string {
	return oneOf(r, "a", "b", "c.d/e-1", strings.Repeat("a", 64), "", "*", "A")
}

// somePayload is a payload of a type, in which something may be wrong.
func somePayload(r *rand.Rand, kind int) payload.Payload {
	p := payload.Payload{Name: oneOf(r, "a", "b", "", "*")}
	switch kind {
	case api.Listener:
		p.Port, p.Route = oneOf[uint64](r, 1, 80, 65535, 0, 65536, 1<<64-1), someName(r)
	case api.Route:
		for range r.Intn(6) {
			p.Rules = append(p.Rules, payload.Rule{Prefix: somePrefix(r), Cluster: someName(r)})
		}
	case api.Cluster:
		p.Policy, p.Secret = oneOf[uint64](r, 0, 1, 2, 3, 1<<32), someName(r)
	case api.Endpoint:
		for range r.Intn(6) {
			port := oneOf(r, 1+uint64(r.Intn(100)), 65535, 0, 65536)
			p.Addrs = append(p.Addrs, payload.Addr{Host: someName(r), Port: port, Weight: oneOf[uint64](r, 1, 2, 1<<31, 1<<32-1, 1<<32, 1<<64-1)})
		}
	case api.Secret:
		p.Key = strings.Repeat("k", oneOf(r, 16, 17, 64, 15, 65, 0))
	}
	return p
}

// somePrefix is a short one, so that many are beginnings of others.
func somePrefix(r *rand.Rand) string {
	b := []byte("/")
	for range 1 + r.Intn(4) {
		b = append(b, "ab/"[r.Intn(3)])
	}
	return oneOf(r, string(b), string(b[1:]), "")
}

// someBody is a body of a payload, some with another one behind it, a byte that was turned, or room filled up.
func someBody(r *rand.Rand) string {
	kind := 1 + r.Intn(api.Types)
	s, _ := payload.Put(kind, somePayload(r, kind))
	if r.Intn(4) == 0 {
		other := 1 + r.Intn(api.Types)
		more, _ := payload.Put(other, somePayload(r, other))
		s += more
	}
	if b := []byte(s); len(b) > 0 && r.Intn(5) == 0 {
		b[r.Intn(len(b))] ^= 1 << r.Intn(8)
		s = string(b)
	}
	if r.Intn(10) == 0 && len(s) < 900 {
		s = padded(s, 1000+r.Intn(50))
	}
	return s
}

// P3.2: held against a plain Body, of every type; whatever comes, no call panics (P1).
func TestBodyPlainly(t *testing.T) {
	r := rand.New(rand.NewSource(1))
	told := map[string]int{}
	for range 100000 {
		k, s := api.Key{Type: r.Intn(api.Types + 2), Name: oneOf(r, "a", "b", "", "*")}, someBody(r)
		got, want := check.Body(k, s), plainBody(k, s)
		if got != want {
			t.Fatalf("Body(%v, % x) = %q, want %q", k, s, got, want)
		}
		told[got]++
	}
	for _, word := range []string{"", "size", "form", "name", "port", "route", "rules", "rule 0", "rule 1", "rule 2", "policy", "secret", "addr 0", "addr 1", "addr 2", "weight", "key"} {
		if told[word] < 20 {
			t.Errorf("%q was told %d times", word, told[word])
		}
	}
}

// P3.3: with a body that is right nothing is wrong for its own key; for every other name of its type `name` is.
func TestBodyOfItsOwnKey(t *testing.T) {
	r := rand.New(rand.NewSource(2))
	right := 0
	for range 20000 {
		kind := 1 + r.Intn(api.Types)
		p := somePayload(r, kind)
		s, _ := payload.Put(kind, p)
		own := api.Key{Type: kind, Name: p.Name}
		if check.Body(own, s) != "" {
			continue
		}
		right++
		for _, name := range []string{"a", "b", "", "*", "A", p.Name + "a", p.Name + "\x00", strings.Repeat("a", 65)} {
			want := "name"
			if name == p.Name {
				want = ""
			}
			if got := check.Body(api.Key{Type: kind, Name: name}, s); got != want {
				t.Fatalf("Body(%d of %q, % x) = %q, want %q", kind, name, s, got, want)
			}
		}
		for _, none := range noTypes {
			if got := check.Body(api.Key{Type: none, Name: p.Name}, s); got != "form" {
				t.Fatalf("Body(%d, % x) = %q, want form", none, s, got)
			}
		}
	}
	if right < 2000 {
		t.Errorf("%d were right", right)
	}
}

// P3.1: Order held against a comparison byte by byte; it is an order.
func TestOrderPlainly(t *testing.T) {
	r := rand.New(rand.NewSource(3))
	some := func() api.Key {
		b := make([]byte, r.Intn(4))
		for i := range b {
			b[i] = "ab\x00\xff"[r.Intn(4)]
		}
		return api.Key{Type: r.Intn(3), Name: string(b)}
	}
	for range 100000 {
		a, b := some(), some()
		want := a.Type - b.Type
		for i := 0; want == 0 && (i < len(a.Name) || i < len(b.Name)); i++ {
			switch {
			case i >= len(a.Name):
				want = -1
			case i >= len(b.Name):
				want = 1
			default:
				want = int(a.Name[i]) - int(b.Name[i])
			}
		}
		want = max(-1, min(1, want))
		if got := check.Order(a, b); got != want || check.Order(b, a) != -want {
			t.Fatalf("Order(%v, %v) = %d, want %d", a, b, got, want)
		}
	}
}
