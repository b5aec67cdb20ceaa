package payload_test

import (
	"reflect"
	"slices"
	"testing"
	"unsafe"

	"noria/api"
	"noria/payload"
	"noria/wire"
)

// withRoom is a Route and an Endpoint, with items behind their lists in their arrays.
func withRoom() (route, endpoint payload.Payload) {
	r := rules{{"/a", "a"}, {"/b", "b"}, {"/c", "c"}}
	a := addrs{{"a", 1, 1}, {"b", 2, 2}, {"c", 3, 3}}
	return payload.Payload{Name: "r", Rules: r[:2]}, payload.Payload{Name: "e", Addrs: a[:2]}
}

// P3: what is handed in stays, and what stands behind it counts for nothing.
func TestPayloadsStay(t *testing.T) {
	route, endpoint := withRoom()
	s, _ := payload.Put(api.Route, route)
	if got, _ := payload.Get(api.Route, s); !reflect.DeepEqual(got.Rules, rules{{"/a", "a"}, {"/b", "b"}}) {
		t.Errorf("put were %v", got)
	}
	s, _ = payload.Put(api.Endpoint, endpoint)
	if got, _ := payload.Get(api.Endpoint, s); !reflect.DeepEqual(got.Addrs, addrs{{"a", 1, 1}, {"b", 2, 2}}) {
		t.Errorf("put were %v", got)
	}
	for _, kind := range append(allTypes, noTypes...) {
		for _, p := range []payload.Payload{route, endpoint} {
			payload.Put(kind, p)
			payload.Refs(kind, p)
			payload.Same(p, route)
		}
	}
	wantRoute, wantEndpoint := withRoom()
	if !payload.Same(route, wantRoute) || !payload.Same(endpoint, wantEndpoint) ||
		route.Rules[:3][2] != wantRoute.Rules[:3][2] || endpoint.Addrs[:3][2] != wantEndpoint.Addrs[:3][2] {
		t.Errorf("became %v, %v", route.Rules[:3], endpoint.Addrs[:3])
	}
}

// P3: lists that are told are new, with their spare room: what is written there is seen nowhere else.
func TestListsAreNew(t *testing.T) {
	route, endpoint := withRoom()
	for _, kind := range []int{api.Route, api.Endpoint} {
		p := map[int]payload.Payload{api.Route: route, api.Endpoint: endpoint}[kind]
		s, _ := payload.Put(kind, p)
		one, _ := payload.Get(kind, s)
		two, _ := payload.Get(kind, s)
		scribble(one.Rules, payload.Rule{Prefix: "scribbled"})
		scribble(one.Addrs, payload.Addr{Host: "scribbled"})
		if three, _ := payload.Get(kind, s); !payload.Same(two, p) || !payload.Same(three, p) {
			t.Errorf("Get shares: %v, %v", two, three)
		}
	}
	for kind, p := range map[int]payload.Payload{api.Listener: {Route: "o"}, api.Route: route, api.Cluster: {Name: "n", Secret: "s"}} {
		one, two := payload.Refs(kind, p), payload.Refs(kind, p)
		want := slices.Clone(two)
		scribble(one, api.Key{Name: "scribbled"})
		if three := payload.Refs(kind, p); !slices.Equal(two, want) || !slices.Equal(three, want) {
			t.Errorf("Refs shares: %v, %v", two, three)
		}
	}
}

func scribble[T any](l []T, v T) {
	l = l[:cap(l)]
	for i := range l {
		l[i] = v
	}
}

// P3: a text that is got does not keep the bytes it came in.
func TestTextsAreNotKept(t *testing.T) {
	for kind, p := range map[int]payload.Payload{
		api.Listener: {Name: "name", Route: "route"},
		api.Route:    {Name: "name", Rules: rules{{"prefix", "cluster"}}},
		api.Cluster:  {Name: "name", Secret: "secret"},
		api.Endpoint: {Name: "name", Addrs: addrs{{Host: "host"}}},
		api.Secret:   {Name: "name", Key: "key"},
	} {
		s, _ := payload.Put(kind, p)
		got, _ := payload.Get(kind, s)
		texts := []string{got.Name, got.Route, got.Secret, got.Key}
		for _, r := range got.Rules {
			texts = append(texts, r.Prefix, r.Cluster)
		}
		for _, a := range got.Addrs {
			texts = append(texts, a.Host)
		}
		from := uintptr(unsafe.Pointer(unsafe.StringData(s)))
		for _, x := range texts {
			at := uintptr(unsafe.Pointer(unsafe.StringData(x)))
			if x != "" && at >= from && at < from+uintptr(len(s)) {
				t.Errorf("%q stands in what it was got from", x)
			}
		}
	}
}

// P4: the same is answered to the same, whatever was asked between.
func TestSameAnswers(t *testing.T) {
	route, endpoint := withRoom()
	payloads := []payload.Payload{{}, {Name: "a", Key: "k"}, {Name: "a", Port: 1, Route: "o"}, {Name: "a", Secret: "s"}, route, endpoint}
	texts := []string{"", "\x00", "\x0a\x01a\x42\x01k", "\x22\x00\x22\x03\x0a\x01/", "\x3a\x02\x10\x01", "\x10\x01", wire.Text(2, "a")}
	tell := func(kind int, p payload.Payload, s string) []any {
		has, ok := payload.Has(kind)
		put, is := payload.Put(kind, p)
		got, right := payload.Get(kind, s)
		return []any{has, ok, put, is, got, right, payload.Same(p, got), payload.Refs(kind, p)}
	}
	var first [][]any
	for i := range 2 {
		at := 0
		for kind := range api.Types + 2 {
			for _, p := range payloads {
				for _, s := range texts {
					l := tell(kind, p, s)
					if i == 0 {
						first = append(first, l)
					} else if !reflect.DeepEqual(l, first[at]) {
						t.Errorf("%d, %v, % x: %v, want %v", kind, p, s, l, first[at])
					}
					at++
				}
			}
		}
	}
}
