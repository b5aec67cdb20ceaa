package check_test

import (
	"math"
	"strings"
	"testing"

	"noria/api"
	"noria/check"
)

// noTypes are numbers that are no type.
var noTypes = []int{0, -1, -5, 6, 7, 1<<32 + 1, math.MaxInt, math.MinInt, math.MinInt + 1}

var allTypes = []int{api.Listener, api.Route, api.Cluster, api.Endpoint, api.Secret}

// nameLetters are all bytes that a name may have.
const nameLetters = "abcdefghijklmnopqrstuvwxyz0123456789-./"

var someNames = []string{"a", "z", "0", "9", "-", ".", "/", "a/b", "//", "-.-", "web.example/v1-2", nameLetters, strings.Repeat("a", 63), strings.Repeat("/", api.MaxName)}

var noNames = []string{"", "*", "**", "a*", "*a", "A", "aB", "Z", "_", "a b", " a", "a ", "a\n", "\x00", "a\x00", ",", ":", "`", "{", "\x7f", "\x80", "\xff", "\xe1", "é", "aé", "ａ", "a\xff", strings.Repeat("a", api.MaxName+1), strings.Repeat("a", api.MaxName) + "*", strings.Repeat("a", 1<<20)}

// P3.1: a name is of 1 to MaxName bytes, of each kind that the chapter names.
func TestName(t *testing.T) {
	for _, s := range someNames {
		if !check.Name(s) {
			t.Errorf("Name(%q) = false", s)
		}
	}
	for _, s := range noNames {
		if check.Name(s) {
			t.Errorf("Name(%.80q) = true", s)
		}
	}
	for n := range 2*api.MaxName + 1 {
		if got, want := check.Name(strings.Repeat("a", n)), n >= 1 && n <= 64; got != want {
			t.Errorf("Name of %d bytes = %v", n, got)
		}
	}
}

// P3.1: each byte by itself, and wherever it stands.
func TestNameBytes(t *testing.T) {
	for b := range 256 {
		one := string([]byte{byte(b)})
		want := strings.Contains(nameLetters, one)
		for _, s := range []string{one, one + "a", "a" + one, "a" + one + "a", strings.Repeat("a", api.MaxName-1) + one, one + strings.Repeat("a", api.MaxName-1)} {
			if got := check.Name(s); got != want {
				t.Errorf("Name(%q) = %v", s, got)
			}
		}
	}
}

// P3.1: a key is of a type, and has a name, or stands for all.
func TestKey(t *testing.T) {
	for _, kind := range allTypes {
		for _, s := range append([]string{"*"}, someNames...) {
			if !check.Key(api.Key{Type: kind, Name: s}) {
				t.Errorf("Key(%d, %q) = false", kind, s)
			}
		}
		for _, s := range noNames {
			if s != "*" && check.Key(api.Key{Type: kind, Name: s}) {
				t.Errorf("Key(%d, %.80q) = true", kind, s)
			}
		}
	}
	for _, kind := range noTypes {
		for _, s := range []string{"*", "a", ""} {
			if check.Key(api.Key{Type: kind, Name: s}) {
				t.Errorf("Key(%d, %q) = true", kind, s)
			}
		}
	}
}

// rising are keys, each ahead of the next by Order; also such as are none.
var rising = []api.Key{
	{Type: math.MinInt, Name: "z"},
	{Type: -1, Name: "b"},
	{Type: 0, Name: ""},
	{Type: 0, Name: "\xff"},
	{Type: 1, Name: ""},
	{Type: 1, Name: "\x00"},
	{Type: 1, Name: "*"},
	{Type: 1, Name: "-"},
	{Type: 1, Name: "10"},
	{Type: 1, Name: "9"},
	{Type: 1, Name: "B"},
	{Type: 1, Name: "a"},
	{Type: 1, Name: "a\x00"},
	{Type: 1, Name: "aa"},
	{Type: 1, Name: "ab"},
	{Type: 1, Name: "b"},
	{Type: 1, Name: "\x80"},
	{Type: 1, Name: "\xc3\xa9"},
	{Type: 1, Name: "\xff"},
	{Type: 2, Name: "*"},
	{Type: 2, Name: "a"},
	{Type: 5, Name: "a"},
	{Type: 10, Name: ""},
	{Type: 1 << 32, Name: "a"},
	{Type: math.MaxInt, Name: "a"},
}

// P3.1: by Type, then by Name, byte by byte; Types of all bits (P6).
func TestOrder(t *testing.T) {
	for i, a := range rising {
		for j, b := range rising {
			want := 0
			if i < j {
				want = -1
			} else if i > j {
				want = 1
			}
			if got := check.Order(a, b); got != want {
				t.Errorf("Order(%v, %v) = %d, want %d", a, b, got, want)
			}
		}
	}
}

// P3.1: a resource that is right, and each thing that makes it wrong.
func TestRight(t *testing.T) {
	key := api.Key{Type: api.Secret, Name: "a"}
	full := strings.Repeat("\xff", api.MaxBody)
	for _, c := range []struct {
		r    api.Resource
		want bool
	}{
		{api.Resource{Key: key, Seq: 1}, true},
		{api.Resource{Key: key, Seq: 1, Body: "anything at all"}, true},
		{api.Resource{Key: key, Seq: 1, Gone: true}, true},
		{api.Resource{Key: key, Seq: 1, Body: full}, true},
		{api.Resource{Key: key, Seq: 1, Body: full[1:]}, true},
		{api.Resource{Key: key, Seq: 1, Body: full + "x"}, false},
		{api.Resource{Key: key, Seq: 1, Body: strings.Repeat("x", 1<<20)}, false},
		{api.Resource{Key: key, Seq: 1, Gone: true, Body: "x"}, false},
		{api.Resource{Key: key, Seq: 1, Gone: true, Body: "\x00"}, false},
		{api.Resource{Key: key, Seq: 1, Gone: true, Body: full + "x"}, false},
		{api.Resource{}, false},
		{api.Resource{Seq: 1}, false},
	} {
		if got := check.Right(c.r); got != c.want {
			t.Errorf("Right(%v, %d, %v, %d bytes) = %v", c.r.Key, c.r.Seq, c.r.Gone, len(c.r.Body), got)
		}
	}
}

// P3.1: Seq is at least 1 and at most 2^62, also of what is gone.
func TestRightSeq(t *testing.T) {
	for seq, want := range map[uint64]bool{
		0: false, 1: true, 2: true, 1 << 31: true, 1 << 32: true, 1<<62 - 1: true, 1 << 62: true,
		1<<62 + 1: false, 1<<63 - 1: false, 1 << 63: false, math.MaxUint64: false,
	} {
		for _, gone := range []bool{false, true} {
			r := api.Resource{Key: api.Key{Type: 1, Name: "a"}, Seq: seq, Gone: gone}
			if got := check.Right(r); got != want {
				t.Errorf("Right of Seq %d = %v", seq, got)
			}
		}
	}
}

// P3.1: the Key of a resource is one, and of one name.
func TestRightKey(t *testing.T) {
	right := func(kind int, name string) bool {
		return check.Right(api.Resource{Key: api.Key{Type: kind, Name: name}, Seq: 1})
	}
	for _, kind := range allTypes {
		for _, s := range someNames {
			if !right(kind, s) {
				t.Errorf("Right(%d, %q) = false", kind, s)
			}
		}
		for _, s := range noNames {
			if right(kind, s) {
				t.Errorf("Right(%d, %.80q) = true", kind, s)
			}
		}
	}
	for _, kind := range noTypes {
		if right(kind, "a") || right(kind, "*") {
			t.Errorf("Right(%d) = true", kind)
		}
	}
}
