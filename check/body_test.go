package check_test

import (
	"math"
	"strconv"
	"strings"
	"testing"

	"noria/api"
	"noria/check"
	"noria/payload"
	"noria/wire"
)

// rule and addr are payload's, to be written without the names of their fields.
type (
	rule struct{ Prefix, Cluster string }
	addr struct {
		Host         string
		Port, Weight uint64
	}
	rules []rule
	addrs []addr
)

func (l rules) list() []payload.Rule {
	var out []payload.Rule
	for _, r := range l {
		out = append(out, payload.Rule(r))
	}
	return out
}

func (l addrs) list() []payload.Addr {
	var out []payload.Addr
	for _, a := range l {
		out = append(out, payload.Addr(a))
	}
	return out
}

// key16 is a Secret's Key, as short as may be.
const key16 = "0123456789abcdef"

// bodyOf is p as a body of that type.
func bodyOf(t *testing.T, kind int, p payload.Payload) string {
	t.Helper()
	s, ok := payload.Put(kind, p)
	if !ok {
		t.Fatalf("can't put %v as %d", p, kind)
	}
	return s
}

// tells asks what is wrong with p as the body of the key a of that type.
func tells(t *testing.T, kind int, p payload.Payload, want string) {
	t.Helper()
	if p.Name == "" {
		p.Name = "a"
	}
	if got := check.Body(api.Key{Type: kind, Name: "a"}, bodyOf(t, kind, p)); got != want {
		t.Errorf("Body(%d, %v) = %q, want %q", kind, p, got, want)
	}
}

// rightPayloads has, of each type, a payload of the name a with which nothing is wrong.
func rightPayloads() map[int]payload.Payload {
	return map[int]payload.Payload{
		api.Listener: {Name: "a", Port: 80, Route: "r"},
		api.Route:    {Name: "a", Rules: rules{{"/a", "c"}, {"/b", "c"}, {"/", "d"}}.list()},
		api.Cluster:  {Name: "a", Policy: 2, Secret: "s"},
		api.Endpoint: {Name: "a", Addrs: addrs{{"h", 80, 1}, {"i", 80, 1}, {"h", 81, 0}}.list()},
		api.Secret:   {Name: "a", Key: key16},
	}
}

// padded is s with a field that no type has ahead of it, so that it is of n bytes.
func padded(s string, n int) string {
	size := n - len(s) - len(wire.Text(9, "")) - 1
	return wire.Text(9, strings.Repeat("x", size)) + s
}

// P3.2: nothing is wrong with what is right, with MaxBody bytes too; above these it is `size`, whatever else is wrong.
func TestBodySize(t *testing.T) {
	for kind, p := range rightPayloads() {
		k, s := api.Key{Type: kind, Name: "a"}, bodyOf(t, kind, p)
		for n, want := range map[int]string{api.MaxBody - 1: "", api.MaxBody: "", api.MaxBody + 1: "size", api.MaxBody + 500: "size"} {
			body := padded(s, n)
			if got := check.Body(k, body); got != want || len(body) != n {
				t.Errorf("Body(%d, %d bytes) = %q, want %q", kind, len(body), got, want)
			}
		}
		if got := check.Body(k, s); got != "" {
			t.Errorf("Body(%d, %v) = %q", kind, p, got)
		}
	}
	long := strings.Repeat("\xff", api.MaxBody+1)
	for _, kind := range append(noTypes, allTypes...) {
		for _, name := range []string{"a", "", "*"} {
			if got := check.Body(api.Key{Type: kind, Name: name}, long); got != "size" {
				t.Errorf("Body(%d, too long) = %q, want size", kind, got)
			}
		}
	}
}

// P3.2: what is not got is `form`: of no type, not parsed, of another Kind, or with too many items; also with another name.
func TestBodyForm(t *testing.T) {
	for _, kind := range noTypes {
		for _, body := range []string{"", "\x0a\x01a", "\x0a\x01b", "\x00", strings.Repeat("\xff", api.MaxBody)} {
			if got := check.Body(api.Key{Type: kind, Name: "a"}, body); got != "form" {
				t.Errorf("Body(%d, % .20x) = %q, want form", kind, body, got)
			}
		}
	}
	for _, kind := range allTypes {
		for _, body := range []string{"\x00", "\x80", "a", "\x0a", "\x0a\x02a", "\x0a\x01b\x00", "\x08\x01", "\x0d1234", strings.Repeat("\xff", api.MaxBody)} {
			if got := check.Body(api.Key{Type: kind, Name: "a"}, body); got != "form" {
				t.Errorf("Body(%d, % .20x) = %q, want form", kind, body, got)
			}
		}
	}
	for kind, body := range map[int]string{
		api.Listener: wire.Text(2, "1"),
		api.Route:    strings.Repeat(wire.Text(4, ""), api.MaxItems+1),
		api.Cluster:  wire.Text(5, "1"),
		api.Endpoint: strings.Repeat(wire.Text(7, ""), api.MaxItems+1),
		api.Secret:   wire.Number(8, 1),
	} {
		if got := check.Body(api.Key{Type: kind, Name: "a"}, body); got != "form" {
			t.Errorf("Body(%d, % .20x) = %q, want form", kind, body, got)
		}
	}
}

// P3.2: another Name is `name`, ahead of what else is wrong; held are the texts alone, whether names or not.
func TestBodyName(t *testing.T) {
	for kind, p := range rightPayloads() {
		for _, name := range []string{"a", "b", "", "A", "aa", "*", "\xff", strings.Repeat("a", 65)} {
			for _, other := range []string{"a", "b", "", "A", "*", "a\x00", strings.Repeat("a", 66)} {
				p.Name = name
				want := ""
				if name != other {
					want = "name"
				}
				if got := check.Body(api.Key{Type: kind, Name: other}, bodyOf(t, kind, p)); got != want {
					t.Errorf("Body(%d of %q, with %q) = %q, want %q", kind, other, name, got, want)
				}
			}
		}
		if got := check.Body(api.Key{Type: kind, Name: "a"}, bodyOf(t, kind, payload.Payload{Name: "b"})); got != "name" {
			t.Errorf("Body(%d, all is wrong) = %q, want name", kind, got)
		}
		if got := check.Body(api.Key{Type: kind, Name: "a"}, ""); got != "name" {
			t.Errorf("Body(%d, nothing) = %q, want name", kind, got)
		}
	}
}

// P3.2: the last Name counts, as with Get.
func TestBodyLastName(t *testing.T) {
	body := "\x0a\x01b" + bodyOf(t, api.Secret, rightPayloads()[api.Secret])
	if got := check.Body(api.Key{Type: api.Secret, Name: "a"}, body); got != "" {
		t.Errorf("%q, want nothing", got)
	}
	if got := check.Body(api.Key{Type: api.Secret, Name: "a"}, body+"\x0a\x01b"); got != "name" {
		t.Errorf("%q, want name", got)
	}
}

// P3.2: of a Listener the port, then the route.
func TestBodyListener(t *testing.T) {
	for port, want := range map[uint64]string{0: "port", 1: "", 2: "", 80: "", 65534: "", 65535: "", 65536: "port", 65537: "port", 1 << 32: "port", 1<<32 + 80: "port", 1 << 63: "port", math.MaxUint64: "port"} {
		tells(t, api.Listener, payload.Payload{Port: port, Route: "r"}, want)
		if want == "" {
			want = "route"
		}
		tells(t, api.Listener, payload.Payload{Port: port}, want)
	}
	for _, s := range someNames {
		tells(t, api.Listener, payload.Payload{Port: 1, Route: s}, "")
	}
	for _, s := range noNames[:len(noNames)-1] {
		tells(t, api.Listener, payload.Payload{Port: 1, Route: s}, "route")
		tells(t, api.Listener, payload.Payload{Port: 0, Route: s}, "port")
	}
}

// P3.2: of a Route `rules`, or the first rule that is wrong.
func TestBodyRoute(t *testing.T) {
	for _, c := range []struct {
		rules rules
		want  string
	}{
		{nil, "rules"},
		{rules{{"/", "c"}}, ""},
		{rules{{"/a", "c"}, {"/", "c"}}, ""},
		{rules{{"//", "c"}, {"/", "c"}}, ""},
		{rules{{"/ab", "c"}, {"/a", "c"}, {"/b", "c"}, {"/", "c"}}, ""},
		{rules{{"/A b*\x00\xff", "c"}, {"/A b*\x00", "c"}}, ""},
		{rules{{"/" + strings.Repeat("x", 200), "c"}}, ""},

		{rules{{}}, "rule 0"},
		{rules{{"", "c"}}, "rule 0"},
		{rules{{"a", "c"}}, "rule 0"},
		{rules{{"a/", "c"}}, "rule 0"},
		{rules{{" /", "c"}}, "rule 0"},
		{rules{{"\\", "c"}}, "rule 0"},
		{rules{{"*", "c"}}, "rule 0"},
		{rules{{"/", ""}}, "rule 0"},
		{rules{{"/a", "c"}, {"b", "c"}}, "rule 1"},
		{rules{{"/a", "c"}, {"", "c"}}, "rule 1"},
		{rules{{"/a", "c"}, {"/b", "C"}}, "rule 1"},

		{rules{{"/", "c"}, {"/", "d"}}, "rule 1"},
		{rules{{"/", "c"}, {"/a", "d"}}, "rule 1"},
		{rules{{"/a", "c"}, {"/a", "c"}}, "rule 1"},
		{rules{{"/a", "c"}, {"/ab", "c"}}, "rule 1"},
		{rules{{"/a", "c"}, {"/b", "c"}, {"/a/b", "c"}}, "rule 2"},
		{rules{{"/a", "c"}, {"/b", "c"}, {"/c", "c"}, {"/bc", "c"}}, "rule 3"},
		{rules{{"/a", "c"}, {"/b", "c"}, {"/b", "c"}, {"", ""}}, "rule 2"},
		{rules{{"/a", "c"}, {"", ""}, {"/a", "c"}}, "rule 1"},
		{rules{{"/a", "c"}, {"/A", "c"}, {"/\x00", "c"}, {"/\x00\x00", "c"}}, "rule 3"},
	} {
		tells(t, api.Route, payload.Payload{Rules: c.rules.list()}, c.want)
	}
	for _, s := range someNames {
		tells(t, api.Route, payload.Payload{Rules: rules{{"/a", "c"}, {"/b", s}}.list()}, "")
	}
	for _, s := range noNames[:len(noNames)-1] {
		tells(t, api.Route, payload.Payload{Rules: rules{{"/a", "c"}, {"/b", s}}.list()}, "rule 1")
	}
}

// P3.2: of a Cluster the policy, then the secret.
func TestBodyCluster(t *testing.T) {
	for policy, want := range map[uint64]string{0: "", 1: "", 2: "", 3: "policy", 258: "policy", 1 << 32: "policy", math.MaxUint64: "policy"} {
		tells(t, api.Cluster, payload.Payload{Policy: policy, Secret: "s"}, want)
		tells(t, api.Cluster, payload.Payload{Policy: policy}, want)
		if want == "" {
			want = "secret"
		}
		tells(t, api.Cluster, payload.Payload{Policy: policy, Secret: "*"}, want)
	}
	for _, s := range someNames {
		tells(t, api.Cluster, payload.Payload{Secret: s}, "")
	}
	for _, s := range noNames[1 : len(noNames)-1] {
		tells(t, api.Cluster, payload.Payload{Secret: s}, "secret")
	}
}

// P3.2: of an Endpoint the first address that is wrong.
func TestBodyEndpoint(t *testing.T) {
	for _, c := range []struct {
		addrs addrs
		want  string
	}{
		{nil, ""},
		{addrs{{"h", 1, 0}}, ""},
		{addrs{{"h", 65535, 1}}, ""},
		{addrs{{"h", 1, 1}, {"h", 2, 1}, {"i", 1, 1}, {"i", 2, 1}}, ""},
		{addrs{{"h", 11, 1}, {"h1", 1, 1}}, ""},

		{addrs{{}}, "addr 0"},
		{addrs{{"", 1, 1}}, "addr 0"},
		{addrs{{"h", 0, 1}}, "addr 0"},
		{addrs{{"h", 65536, 1}}, "addr 0"},
		{addrs{{"h", 1<<32 + 1, 1}}, "addr 0"},
		{addrs{{"h", math.MaxUint64, 1}}, "addr 0"},
		{addrs{{"h", 1, 1}, {"h", 0, 1}}, "addr 1"},
		{addrs{{"h", 1, 1}, {"", 1, 1}}, "addr 1"},

		{addrs{{"h", 1, 1}, {"h", 1, 1}}, "addr 1"},
		{addrs{{"h", 1, 1}, {"h", 1, 2}}, "addr 1"},
		{addrs{{"h", 1, 1}, {"i", 1, 1}, {"h", 1, 1}, {"i", 1, 1}}, "addr 2"},
		{addrs{{"h", 1, 1}, {"i", 1, 1}, {"j", 1, 1}, {"i", 1, 1}}, "addr 3"},
		{addrs{{"h", 1, 1}, {"h", 1, 1}, {"", 0, 0}}, "addr 1"},
		{addrs{{"h", 1, 1}, {"", 0, 0}, {"h", 1, 1}}, "addr 1"},
		{addrs{{"", 0, 0}, {"", 0, 0}}, "addr 0"},
	} {
		tells(t, api.Endpoint, payload.Payload{Addrs: c.addrs.list()}, c.want)
	}
	for _, s := range someNames {
		tells(t, api.Endpoint, payload.Payload{Addrs: addrs{{"h", 1, 1}, {s, 2, 1}}.list()}, "")
	}
	for _, s := range noNames[:len(noNames)-1] {
		tells(t, api.Endpoint, payload.Payload{Addrs: addrs{{"h", 1, 1}, {s, 1, 1}}.list()}, "addr 1")
	}
}

// P3.2: of an Endpoint the weights together, behind the addresses; the sum does not wrap.
func TestBodyWeight(t *testing.T) {
	const most = 1<<32 - 1
	for _, c := range []struct {
		weights []uint64
		want    string
	}{
		{[]uint64{0}, ""},
		{[]uint64{most}, ""},
		{[]uint64{most - 1, 1}, ""},
		{[]uint64{1, most - 1, 0, 0}, ""},
		{[]uint64{1 << 31, 1<<31 - 1}, ""},

		{[]uint64{most + 1}, "weight"},
		{[]uint64{most + 2}, "weight"},
		{[]uint64{most, 1}, "weight"},
		{[]uint64{1, most}, "weight"},
		{[]uint64{1 << 31, 1 << 31}, "weight"},
		{[]uint64{1 << 33}, "weight"},
		{[]uint64{1 << 63}, "weight"},
		{[]uint64{math.MaxUint64}, "weight"},
		{[]uint64{math.MaxUint64, 1}, "weight"},
		{[]uint64{1 << 63, 1 << 63}, "weight"},
		{[]uint64{1 << 62, 1 << 62, 1 << 62, 1 << 62}, "weight"},
		{[]uint64{math.MaxUint64 - 4, 1, 1, 1, 1, 1}, "weight"},
	} {
		var p payload.Payload
		for i, w := range c.weights {
			p.Addrs = append(p.Addrs, payload.Addr{Host: "h", Port: uint64(i + 1), Weight: w})
		}
		tells(t, api.Endpoint, p, c.want)
		p.Addrs[len(p.Addrs)-1].Port = 0
		tells(t, api.Endpoint, p, "addr "+strconv.Itoa(len(p.Addrs)-1))
	}
}

// P3.2: of a Secret the key has 16 to 64 bytes, of any kind.
func TestBodySecret(t *testing.T) {
	for n := range 200 {
		want := "key"
		if n >= 16 && n <= 64 {
			want = ""
		}
		for _, one := range []string{"k", "\x00", "\xff"} {
			tells(t, api.Secret, payload.Payload{Key: strings.Repeat(one, n)}, want)
		}
	}
	tells(t, api.Secret, payload.Payload{Key: strings.Repeat("é", 8)}, "")
	tells(t, api.Secret, payload.Payload{Key: strings.Repeat("é", 32)}, "")
	tells(t, api.Secret, payload.Payload{Key: strings.Repeat("é", 33)}, "key")
}

// P3.2: of MaxItems items the place of each, in digits.
func TestBodyPlaces(t *testing.T) {
	for i := range api.MaxItems {
		route, endpoint := payload.Payload{}, payload.Payload{}
		for j := range api.MaxItems {
			route.Rules = append(route.Rules, payload.Rule{Prefix: "/" + string(rune('!'+j)), Cluster: "c"})
			endpoint.Addrs = append(endpoint.Addrs, payload.Addr{Host: "h", Port: uint64(j + 1)})
		}
		tells(t, api.Route, route, "")
		tells(t, api.Endpoint, endpoint, "")
		if i > 0 {
			route.Rules[i].Prefix, endpoint.Addrs[i].Port = route.Rules[i-1].Prefix, endpoint.Addrs[i-1].Port
		} else {
			route.Rules[i].Prefix, endpoint.Addrs[i].Port = "", 0
		}
		tells(t, api.Route, route, "rule "+strconv.Itoa(i))
		tells(t, api.Endpoint, endpoint, "addr "+strconv.Itoa(i))
	}
}

// P3.2: fields that a type has not count for nothing.
func TestBodyOtherFields(t *testing.T) {
	wrong := map[int]string{
		api.Listener: "\x10\x00",
		api.Route:    "\x22\x00",
		api.Cluster:  "\x28\x03",
		api.Endpoint: "\x3a\x00",
		api.Secret:   "\x42\x00",
	}
	words := map[int]string{api.Listener: "port", api.Route: "rule 3", api.Cluster: "policy", api.Endpoint: "addr 3", api.Secret: "key"}
	for kind, p := range rightPayloads() {
		for other, s := range wrong {
			want := ""
			if other == kind {
				want = words[kind]
			}
			if got := check.Body(api.Key{Type: kind, Name: "a"}, bodyOf(t, kind, p)+s); got != want {
				t.Errorf("Body(%d, with % x) = %q, want %q", kind, s, got, want)
			}
		}
	}
}
