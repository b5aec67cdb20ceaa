package payload_test

import (
	"math"
	"reflect"
	"slices"
	"strings"
	"testing"

	"noria/api"
	"noria/payload"
	"noria/wire"
)

type (
	rules = []payload.Rule
	addrs = []payload.Addr
)

// noTypes are numbers that are no type.
var noTypes = []int{0, -1, -5, 6, 7, 1<<32 + 1, math.MaxInt, math.MinInt, math.MinInt + 1}

var allTypes = []int{api.Listener, api.Route, api.Cluster, api.Endpoint, api.Secret}

// hasNums are the Nums of the fields that each type has.
var hasNums = map[int][]int{api.Listener: {1, 2, 3}, api.Route: {1, 4}, api.Cluster: {1, 5, 6}, api.Endpoint: {1, 7}, api.Secret: {1, 8}}

// fieldOf is a payload of which the field of that Num alone is neither 0 nor empty.
func fieldOf(num int) payload.Payload {
	return []payload.Payload{
		{Name: "n"}, {Port: 1}, {Route: "o"}, {Rules: make(rules, 1)}, {Policy: 1}, {Secret: "s"}, {Addrs: make(addrs, 1)}, {Key: "k"},
	}[num-1]
}

// P2.1: the letters of each type; none of what is no type.
func TestHas(t *testing.T) {
	for kind, want := range map[int]string{api.Listener: "po", api.Route: "r", api.Cluster: "ls", api.Endpoint: "a", api.Secret: "k"} {
		if got, ok := payload.Has(kind); got != want || !ok {
			t.Errorf("Has(%d) = %q, %v, want %q", kind, got, ok, want)
		}
	}
	for _, kind := range noTypes {
		if got, ok := payload.Has(kind); got != "" || ok {
			t.Errorf("Has(%d) = %q, %v, want false", kind, got, ok)
		}
	}
}

var putCases = []struct {
	kind int
	p    payload.Payload
	want string
}{
	{api.Listener, payload.Payload{}, ""},
	{api.Listener, payload.Payload{Name: "a"}, "\x0a\x01a"},
	{api.Listener, payload.Payload{Port: 300}, "\x10\xac\x02"},
	{api.Listener, payload.Payload{Route: "r"}, "\x1a\x01r"},
	{api.Listener, payload.Payload{Name: "a", Port: 1, Route: "r"}, "\x0a\x01a\x10\x01\x1a\x01r"},
	{api.Listener, payload.Payload{Name: "\x00", Port: math.MaxUint64, Route: "\xff\x80"}, "\x0a\x01\x00\x10\xff\xff\xff\xff\xff\xff\xff\xff\xff\x01\x1a\x02\xff\x80"},

	{api.Route, payload.Payload{}, ""},
	{api.Route, payload.Payload{Name: "a"}, "\x0a\x01a"},
	{api.Route, payload.Payload{Rules: rules{{"/", "c"}}}, "\x22\x06\x0a\x01/\x12\x01c"},
	{api.Route, payload.Payload{Rules: rules{{}}}, "\x22\x00"},
	{api.Route, payload.Payload{Rules: rules{{"/", ""}, {"", "c"}, {}}}, "\x22\x03\x0a\x01/\x22\x03\x12\x01c\x22\x00"},
	{api.Route, payload.Payload{Name: "a", Rules: rules{{"/", "c"}, {"/", "c"}}}, "\x0a\x01a\x22\x06\x0a\x01/\x12\x01c\x22\x06\x0a\x01/\x12\x01c"},

	{api.Cluster, payload.Payload{}, ""},
	{api.Cluster, payload.Payload{Policy: 2}, "\x28\x02"},
	{api.Cluster, payload.Payload{Secret: "s"}, "\x32\x01s"},
	{api.Cluster, payload.Payload{Name: "a", Policy: 128, Secret: "s"}, "\x0a\x01a\x28\x80\x01\x32\x01s"},

	{api.Endpoint, payload.Payload{}, ""},
	{api.Endpoint, payload.Payload{Addrs: addrs{{"h", 1, 2}}}, "\x3a\x07\x0a\x01h\x10\x01\x18\x02"},
	{api.Endpoint, payload.Payload{Addrs: addrs{{}}}, "\x3a\x00"},
	{api.Endpoint, payload.Payload{Name: "a", Addrs: addrs{{Host: "h"}, {Port: 300}, {Weight: 1}}}, "\x0a\x01a\x3a\x03\x0a\x01h\x3a\x03\x10\xac\x02\x3a\x02\x18\x01"},

	{api.Secret, payload.Payload{}, ""},
	{api.Secret, payload.Payload{Name: "a", Key: "k"}, "\x0a\x01a\x42\x01k"},
	{api.Secret, payload.Payload{Key: strings.Repeat("k", 128)}, "\x42\x80\x01" + strings.Repeat("k", 128)},
}

// P2.1: the fields that are not 0 or empty, by rising Num; and it is got again (P2.4).
func TestPut(t *testing.T) {
	for _, c := range putCases {
		got, ok := payload.Put(c.kind, c.p)
		if got != c.want || !ok {
			t.Errorf("Put(%d, %v) = % x, %v, want % x", c.kind, c.p, got, ok, c.want)
		}
		if p, ok := payload.Get(c.kind, got); !reflect.DeepEqual(p, c.p) || !ok {
			t.Errorf("Get(%d, % x) = %v, %v, want %v", c.kind, got, p, ok, c.p)
		}
	}
}

// P2.1: no type is put, and no field that a type has not.
func TestPutRefuses(t *testing.T) {
	for _, kind := range noTypes {
		for num := 1; num <= 8; num++ {
			if got, ok := payload.Put(kind, fieldOf(num)); got != "" || ok {
				t.Errorf("Put(%d, field %d) = % x, %v, want false", kind, num, got, ok)
			}
		}
		if got, ok := payload.Put(kind, payload.Payload{}); got != "" || ok {
			t.Errorf("Put(%d, nothing) = % x, %v, want false", kind, got, ok)
		}
	}
	for _, kind := range allTypes {
		for num := 1; num <= 8; num++ {
			p := fieldOf(num)
			p.Name = "a"
			got, ok := payload.Put(kind, p)
			if want := slices.Contains(hasNums[kind], num); ok != want || (got != "") != want {
				t.Errorf("Put(%d, field %d) = % x, %v, want %v", kind, num, got, ok, want)
			}
		}
	}
}

// P2.1: MaxItems Rules and Addrs are put, and no more; a list of nothing is as good as none.
func TestPutItems(t *testing.T) {
	for n, want := range map[int]bool{0: true, 1: true, 63: true, api.MaxItems: true, api.MaxItems + 1: false, 1000: false} {
		for kind, p := range map[int]payload.Payload{api.Route: {Rules: make(rules, n)}, api.Endpoint: {Addrs: make(addrs, n)}} {
			all := ""
			if want {
				all = strings.Repeat(map[int]string{api.Route: "\x22\x00", api.Endpoint: "\x3a\x00"}[kind], n)
			}
			if got, ok := payload.Put(kind, p); got != all || ok != want {
				t.Errorf("Put(%d, %d items) = % x, %v", kind, n, got, ok)
			}
		}
		p := payload.Payload{Name: "a", Rules: make(rules, n), Addrs: make(addrs, n)}
		if got, ok := payload.Put(api.Listener, p); ok != (n == 0) || (got == "\x0a\x01a") != (n == 0) {
			t.Errorf("Put(Listener, %d items) = % x, %v", n, got, ok)
		}
	}
}

// P2.2: the last one of each field, all of lists, and nothing else; numbers as long as they please.
func TestGet(t *testing.T) {
	for _, c := range []struct {
		kind int
		s    string
		want payload.Payload
	}{
		{api.Listener, "\x0a\x01a\x10\x01\x0a\x01b\x1a\x01r\x10\x02\x1a\x02rs", payload.Payload{Name: "b", Port: 2, Route: "rs"}},
		{api.Listener, "\x0a\x01a\x10\x01\x1a\x01r\x0a\x00\x10\x00\x1a\x00", payload.Payload{}},
		{api.Listener, "\x1a\x01r\x10\x01\x0a\x01a", payload.Payload{Name: "a", Port: 1, Route: "r"}},
		{api.Listener, "\x8a\x00\x81\x00a\x90\x80\x00\x81\x80\x00", payload.Payload{Name: "a", Port: 1}},

		{api.Route, "\x22\x03\x0a\x01/\x0a\x01a\x22\x00\x22\x03\x12\x01c", payload.Payload{Name: "a", Rules: rules{{"/", ""}, {}, {"", "c"}}}},
		{api.Route, wire.Text(4, "\x12\x01c\x0a\x01x\x12\x01d\x0a\x01y"), payload.Payload{Rules: rules{{"y", "d"}}}},
		{api.Route, "\x22\x05\x0a\x01x\x0a\x00", payload.Payload{Rules: rules{{}}}},
		{api.Route, wire.Text(4, "\x18\x01\x22\x01z\x3d1234\x0a\x01x"), payload.Payload{Rules: rules{{"x", ""}}}},

		{api.Cluster, "\x28\x01\x32\x01s\x28\x80\x01\x32\x01t", payload.Payload{Policy: 128, Secret: "t"}},
		{api.Cluster, "\x32\x01s\x32\x00\x28\x01\x28\x00", payload.Payload{}},

		{api.Endpoint, "\x3a\x07\x0a\x01h\x10\x01\x18\x02\x3a\x00\x3a\x02\x18\x03", payload.Payload{Addrs: addrs{{"h", 1, 2}, {}, {Weight: 3}}}},
		{api.Endpoint, wire.Text(7, "\x18\x02\x10\x01\x0a\x01h\x18\x03\x10\x04\x0a\x01i"), payload.Payload{Addrs: addrs{{"i", 4, 3}}}},
		{api.Endpoint, wire.Text(7, "\x20\x01\x2a\x01z\x0a\x02hh"), payload.Payload{Addrs: addrs{{Host: "hh"}}}},

		{api.Secret, "\x42\x01k\x0a\x01a\x42\x02kk", payload.Payload{Name: "a", Key: "kk"}},
	} {
		if got, ok := payload.Get(c.kind, c.s); !reflect.DeepEqual(got, c.want) || !ok {
			t.Errorf("Get(%d, % x) = %v, %v, want %v", c.kind, c.s, got, ok, c.want)
		}
	}
	for _, kind := range allTypes {
		if got, ok := payload.Get(kind, ""); !payload.Same(got, payload.Payload{}) || !ok {
			t.Errorf("Get(%d, nothing) = %v, %v", kind, got, ok)
		}
	}
}

// someField is a field of that Num and Kind.
func someField(num, kind int) string {
	s, _ := wire.Put(wire.Field{Num: num, Kind: kind, S: map[int]string{1: "12345678", 2: "\x0a\x01x", 5: "1234"}[kind]})
	return s
}

// P2.2: a field that a type has is of the Kind it is put with, wherever it stands; another one may be of any Kind.
func TestGetKinds(t *testing.T) {
	putWith := []int{1: 2, 2: 0, 3: 2, 4: 2, 5: 0, 6: 2, 7: 2, 8: 2}
	for _, kind := range allTypes {
		for _, num := range []int{1, 2, 3, 4, 5, 6, 7, 8, 9, 100, 1<<29 - 1} {
			for _, wireKind := range []int{0, 1, 2, 5} {
				s := someField(num, wireKind)
				has := slices.Contains(hasNums[kind], num)
				want := !has || wireKind == putWith[num]
				for _, whole := range []string{s, "\x0a\x01a" + s, s + "\x0a\x01a"} {
					p, ok := payload.Get(kind, whole)
					if ok != want || !ok && !reflect.DeepEqual(p, payload.Payload{}) {
						t.Errorf("Get(%d, % x) = %v, %v, want %v", kind, whole, p, ok, want)
					}
				}
				if has && num > 1 && !want {
					right := someField(num, putWith[num])
					if p, ok := payload.Get(kind, right+s+right); ok {
						t.Errorf("Get(%d, % x among others) = %v", kind, s, p)
					}
				}
				if !has {
					if p, _ := payload.Get(kind, "\x0a\x01a"+s); !reflect.DeepEqual(p, payload.Payload{Name: "a"}) {
						t.Errorf("Get(%d, % x) = %v, want the Name alone", kind, s, p)
					}
				}
			}
		}
	}
}

// P2.2: the fields of a Rule, and of an Addr, likewise.
func TestGetItemKinds(t *testing.T) {
	for _, c := range []struct {
		kind, num int
		putWith   []int
	}{{api.Route, 4, []int{1: 2, 2: 2}}, {api.Endpoint, 7, []int{1: 2, 2: 0, 3: 0}}} {
		for _, num := range []int{1, 2, 3, 4, 5, 6, 7, 8, 1<<29 - 1} {
			for _, wireKind := range []int{0, 1, 2, 5} {
				s := someField(num, wireKind)
				want := num >= len(c.putWith) || wireKind == c.putWith[num]
				for _, item := range []string{s, s + "\x0a\x01a", "\x0a\x01a" + s} {
					whole := wire.Text(c.num, "") + wire.Text(c.num, item)
					if p, ok := payload.Get(c.kind, whole); ok != want || len(p.Rules)+len(p.Addrs) != map[bool]int{true: 2}[want] {
						t.Errorf("Get(%d, % x) = %v, %v, want %v", c.kind, whole, p, ok, want)
					}
				}
			}
		}
	}
}

// P2.2: what is not parsed is not got, nor is a Rule or an Addr; and nothing is told then (P2).
func TestGetRefuses(t *testing.T) {
	wrong := []string{"\x00", "\x80", "\x07", "\x0a", "\x0a\x02a", "\x10", "\x10\x80", "\x0b", "\x0d123", "\x091234567", "\x80\x80\x80\x80\x10\x00", "\x0a\xff\xff\xff\xff\xff\xff\xff\xff\xff\x01a"}
	for _, s := range wrong {
		for _, kind := range allTypes {
			for _, whole := range []string{s, "\x0a\x01a" + s, "\x4a\x01z" + s} {
				if p, ok := payload.Get(kind, whole); !reflect.DeepEqual(p, payload.Payload{}) || ok {
					t.Errorf("Get(%d, % x) = %v, %v, want false", kind, whole, p, ok)
				}
			}
			for _, num := range []int{4, 7} {
				for _, item := range []string{s, "\x0a\x01a" + s} {
					whole := wire.Text(1, "a") + wire.Text(num, item) + wire.Text(num, "")
					p, ok := payload.Get(kind, whole)
					if want := !slices.Contains(hasNums[kind], num); ok != want || !ok && !reflect.DeepEqual(p, payload.Payload{}) {
						t.Errorf("Get(%d, % x) = %v, %v, want %v", kind, whole, p, ok, want)
					}
				}
			}
		}
	}
	for _, kind := range noTypes {
		for _, s := range []string{"", "\x0a\x01a", "\x00"} {
			if p, ok := payload.Get(kind, s); !reflect.DeepEqual(p, payload.Payload{}) || ok {
				t.Errorf("Get(%d, % x) = %v, %v, want false", kind, s, p, ok)
			}
		}
	}
}

// P2.2: MaxItems Rules or Addrs are got, and no more; of a field that a type has not there may be any number.
func TestGetItems(t *testing.T) {
	for _, kind := range allTypes {
		for num := 1; num <= 9; num++ {
			for _, n := range []int{63, api.MaxItems, api.MaxItems + 1, 1000} {
				one := someField(num, 2)
				if num == 2 || num == 5 {
					one = someField(num, 0)
				}
				list := (num == 4 || num == 7) && slices.Contains(hasNums[kind], num)
				want := !list || n <= api.MaxItems
				p, ok := payload.Get(kind, strings.Repeat(one, n)+"\x0a\x01a")
				if ok != want || !ok && !reflect.DeepEqual(p, payload.Payload{}) {
					t.Errorf("Get(%d, %d of %d) = %v, %v, want %v", kind, n, num, p, ok, want)
				}
				if got := len(p.Rules) + len(p.Addrs); list && ok && got != n || !list && got != 0 {
					t.Errorf("Get(%d, %d of %d) has %d items", kind, n, num, got)
				}
			}
		}
	}
}

// P2.3: the same is what has the same in each field.
func TestSame(t *testing.T) {
	of := func() payload.Payload {
		return payload.Payload{Name: "n", Port: 1, Route: "o", Rules: rules{{"/a", "b"}, {"/c", "d"}}, Policy: 2, Secret: "s", Addrs: addrs{{"h", 1, 2}, {"i", 3, 4}}, Key: "k"}
	}
	if !payload.Same(of(), of()) || !payload.Same(payload.Payload{}, payload.Payload{Rules: rules{}, Addrs: addrs{}}) || !payload.Same(payload.Payload{Rules: rules{}, Addrs: addrs{}}, payload.Payload{}) {
		t.Error("the same is not the same")
	}
	for i, change := range []func(p *payload.Payload){
		func(p *payload.Payload) { p.Name = "N" },
		func(p *payload.Payload) { p.Name = "" },
		func(p *payload.Payload) { p.Port = 1<<32 + 1 },
		func(p *payload.Payload) { p.Route = "o\x00" },
		func(p *payload.Payload) { p.Policy = 1<<63 + 2 },
		func(p *payload.Payload) { p.Secret = "\xff" },
		func(p *payload.Payload) { p.Key = "kk" },
		func(p *payload.Payload) { p.Rules = nil },
		func(p *payload.Payload) { p.Rules = p.Rules[:1] },
		func(p *payload.Payload) { p.Rules = p.Rules[1:] },
		func(p *payload.Payload) { p.Rules = append(p.Rules, payload.Rule{}) },
		func(p *payload.Payload) { p.Rules[0].Prefix = "/" },
		func(p *payload.Payload) { p.Rules[1].Cluster = "b" },
		func(p *payload.Payload) { p.Rules[0], p.Rules[1] = p.Rules[1], p.Rules[0] },
		func(p *payload.Payload) { p.Rules[0] = payload.Rule{Prefix: "/ab"} },
		func(p *payload.Payload) { p.Addrs = nil },
		func(p *payload.Payload) { p.Addrs = p.Addrs[:1] },
		func(p *payload.Payload) { p.Addrs = append(p.Addrs, payload.Addr{}) },
		func(p *payload.Payload) { p.Addrs[0].Host = "i" },
		func(p *payload.Payload) { p.Addrs[1].Port = 4 },
		func(p *payload.Payload) { p.Addrs[1].Weight = 3 },
		func(p *payload.Payload) { p.Addrs[0], p.Addrs[1] = p.Addrs[1], p.Addrs[0] },
	} {
		p := of()
		change(&p)
		if payload.Same(p, of()) || payload.Same(of(), p) {
			t.Errorf("%d: %v is the same", i, p)
		}
	}
}

// P2.3: what each type points at, and no more.
func TestRefs(t *testing.T) {
	full := payload.Payload{Name: "n", Port: 1, Route: "o", Rules: rules{{"/", "c"}}, Policy: 2, Secret: "s", Addrs: addrs{{"h", 1, 2}}, Key: "k"}
	for _, c := range []struct {
		kind int
		p    payload.Payload
		want []api.Key
	}{
		{api.Listener, full, []api.Key{{Type: api.Route, Name: "o"}}},
		{api.Listener, payload.Payload{Name: "n"}, nil},
		{api.Route, full, []api.Key{{Type: api.Cluster, Name: "c"}}},
		{api.Route, payload.Payload{Name: "n", Route: "o"}, nil},
		{api.Route, payload.Payload{Rules: rules{{"/d", "d"}, {"/", ""}, {"/b", "b"}, {"/e", "d"}, {"", ""}, {"/c", "c"}, {"/b", "b"}, {"/f", "d"}}},
			[]api.Key{{Type: api.Cluster, Name: "d"}, {Type: api.Cluster, Name: "b"}, {Type: api.Cluster, Name: "c"}}},
		{api.Route, payload.Payload{Rules: make(rules, 3)}, nil},
		{api.Cluster, full, []api.Key{{Type: api.Endpoint, Name: "n"}, {Type: api.Secret, Name: "s"}}},
		{api.Cluster, payload.Payload{Name: "n", Route: "o", Key: "k"}, []api.Key{{Type: api.Endpoint, Name: "n"}}},
		{api.Cluster, payload.Payload{Name: "s", Secret: "s"}, []api.Key{{Type: api.Endpoint, Name: "s"}, {Type: api.Secret, Name: "s"}}},
		{api.Cluster, payload.Payload{}, []api.Key{{Type: api.Endpoint}}},
		{api.Cluster, payload.Payload{Secret: "s"}, []api.Key{{Type: api.Endpoint}, {Type: api.Secret, Name: "s"}}},
		{api.Endpoint, full, nil},
		{api.Secret, full, nil},
	} {
		if got := payload.Refs(c.kind, c.p); !slices.Equal(got, c.want) {
			t.Errorf("Refs(%d, %v) = %v, want %v", c.kind, c.p, got, c.want)
		}
	}
	for _, kind := range noTypes {
		if got := payload.Refs(kind, full); len(got) != 0 {
			t.Errorf("Refs(%d) = %v, want none", kind, got)
		}
	}
}

// P2.3: each cluster once, however many there are.
func TestRefsOfMany(t *testing.T) {
	var p payload.Payload
	var want []api.Key
	for i := range 300 {
		name := strings.Repeat("c", 1+i%100)
		p.Rules = append(p.Rules, payload.Rule{Prefix: "/", Cluster: name})
		if i < 100 {
			want = append(want, api.Key{Type: api.Cluster, Name: name})
		}
	}
	if got := payload.Refs(api.Route, p); !slices.Equal(got, want) {
		t.Errorf("%d keys, want %d", len(got), len(want))
	}
}
