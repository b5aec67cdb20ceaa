package resource_test

import (
	"math"
	"strings"
	"testing"

	"noria/api"
	"noria/resource"
	"noria/wire"
)

func key(kind int, name string) api.Key { return api.Key{Type: kind, Name: name} }

// of is a version of a key, with a body that tells them apart.
func of(kind int, name string, seq uint64, body string) api.Resource {
	return api.Resource{Key: key(kind, name), Seq: seq, Body: body}
}

// gone is a version of a key that is gone.
func gone(kind int, name string, seq uint64) api.Resource {
	return api.Resource{Key: key(kind, name), Seq: seq, Gone: true}
}

var (
	longName = strings.Repeat("a", api.MaxName)
	longBody = strings.Repeat("\xff", api.MaxBody)
)

var putCases = []struct {
	r    api.Resource
	want string
}{
	{of(1, "a", 1, ""), "\x08\x01\x12\x01a\x18\x01"},
	{of(5, "a/b", 300, ""), "\x08\x05\x12\x03a/b\x18\xac\x02"},
	{of(2, "a", 1, "body"), "\x08\x02\x12\x01a\x18\x01\x2a\x04body"},
	{of(3, "a", 1, "\x00"), "\x08\x03\x12\x01a\x18\x01\x2a\x01\x00"},
	{gone(4, "a", 1), "\x08\x04\x12\x01a\x18\x01\x20\x01"},
	{of(1, longName, 127, longBody), "\x08\x01\x12\x40" + longName + "\x18\x7f\x2a\x80\x08" + longBody},
	{of(1, "a", 1<<62, "x"), "\x08\x01\x12\x01a\x18\x80\x80\x80\x80\x80\x80\x80\x80\x40\x2a\x01x"},
	{gone(1, "a", 1<<62), "\x08\x01\x12\x01a\x18\x80\x80\x80\x80\x80\x80\x80\x80\x40\x20\x01"},
}

// P4.1: the fields that are not 0, false, or empty, by rising Num; and they are got again (P4.3).
func TestPut(t *testing.T) {
	for _, c := range putCases {
		got, ok := resource.Put(c.r)
		if got != c.want || !ok {
			t.Errorf("Put(%v) = % x, %v, want % x", c.r, got, ok, c.want)
		}
		if r, ok := resource.Get(c.want); r != c.r || !ok {
			t.Errorf("Get(% x) = %v, %v, want %v", c.want, r, ok, c.r)
		}
	}
}

// notRight are resources that are not: each for one thing alone, but the last few.
var notRight = []api.Resource{
	of(0, "a", 1, ""),
	of(6, "a", 1, ""),
	of(-1, "a", 1, ""),
	of(1<<32+1, "a", 1, ""),
	of(math.MaxInt, "a", 1, ""),
	of(math.MinInt, "a", 1, ""),
	of(math.MinInt+1, "a", 1, ""),
	of(1, "", 1, ""),
	of(1, "*", 1, ""),
	of(1, "A", 1, ""),
	of(1, "a\xff", 1, ""),
	of(1, longName+"a", 1, ""),
	of(1, "a", 0, ""),
	of(1, "a", 1<<62+1, ""),
	of(1, "a", 1<<63, ""),
	of(1, "a", math.MaxUint64, ""),
	gone(1, "a", 0),
	of(1, "a", 1, longBody+"x"),
	{Key: key(1, "a"), Seq: 1, Gone: true, Body: "x"},
	{Key: key(1, "a"), Seq: 1, Gone: true, Body: "\x00"},
	{},
	{Gone: true},
	{Key: key(1, "a")},
	{Seq: 1},
}

// P4.1: what is not Right is not put; nothing is told then (P2).
func TestPutRefuses(t *testing.T) {
	for _, r := range notRight {
		if got, ok := resource.Put(r); got != "" || ok {
			t.Errorf("Put(%v) = % x, %v, want false", r, got, ok)
		}
	}
}

// fieldsOf is r as its fields, all of them, right or not.
func fieldsOf(r api.Resource) string {
	n := uint64(0)
	if r.Gone {
		n = 1
	}
	return wire.Number(1, uint64(r.Type)) + wire.Text(2, r.Name) + wire.Number(3, r.Seq) + wire.Number(4, n) + wire.Text(5, r.Body)
}

// P4.1: what is not Right is not got, however it is put.
func TestGetRefusesNotRight(t *testing.T) {
	for _, r := range notRight {
		if got, ok := resource.Get(fieldsOf(r)); got != (api.Resource{}) || ok {
			t.Errorf("Get(%v) = %v, %v, want false", r, got, ok)
		}
	}
	for _, c := range putCases {
		if got, ok := resource.Get(fieldsOf(c.r)); got != c.r || !ok {
			t.Errorf("Get(%v) = %v, %v", c.r, got, ok)
		}
	}
}

// isA is Type 1, Name a, Seq 1.
const isA = "\x08\x01\x12\x01a\x18\x01"

// P4.1: of each field the last one, in any order, as long as they please; fields of other numbers count for nothing.
func TestGet(t *testing.T) {
	for _, c := range []struct {
		s    string
		want api.Resource
	}{
		{isA, of(1, "a", 1, "")},
		{"\x18\x01\x12\x01a\x08\x01", of(1, "a", 1, "")},
		{"\x2a\x01x\x18\x02\x12\x01b\x08\x03", of(3, "b", 2, "x")},
		{"\x20\x01" + isA, gone(1, "a", 1)},

		{isA + "\x08\x05", of(5, "a", 1, "")},
		{isA + "\x12\x01b", of(1, "b", 1, "")},
		{isA + "\x18\x07", of(1, "a", 7, "")},
		{isA + "\x20\x01", gone(1, "a", 1)},
		{isA + "\x2a\x01x", of(1, "a", 1, "x")},
		{isA + isA, of(1, "a", 1, "")},
		{isA + "\x20\x01\x20\x00", of(1, "a", 1, "")},
		{isA + "\x20\x00\x20\x01", gone(1, "a", 1)},
		{isA + "\x2a\x01x\x2a\x01y", of(1, "a", 1, "y")},
		{isA + "\x2a\x01x\x2a\x00", of(1, "a", 1, "")},
		{isA + "\x20\x01\x2a\x01x\x2a\x00", gone(1, "a", 1)},
		{isA + "\x20\x01\x2a\x01x\x20\x00", of(1, "a", 1, "x")},

		// an earlier one that would be wrong as the last
		{"\x08\x00" + isA, of(1, "a", 1, "")},
		{"\x08\x06" + isA, of(1, "a", 1, "")},
		{wire.Number(1, math.MaxUint64) + isA, of(1, "a", 1, "")},
		{"\x12\x00\x12\x01*" + isA, of(1, "a", 1, "")},
		{wire.Text(2, longName+"a") + isA, of(1, "a", 1, "")},
		{"\x18\x00" + isA, of(1, "a", 1, "")},
		{wire.Number(3, math.MaxUint64) + isA, of(1, "a", 1, "")},
		{"\x20\x02" + isA + "\x20\x01", gone(1, "a", 1)},
		{"\x20\x02" + isA + "\x20\x00", of(1, "a", 1, "")},
		{wire.Text(5, longBody+"x") + isA + "\x2a\x01x", of(1, "a", 1, "x")},

		// 0 and empty stand as what is left out
		{isA + "\x20\x00\x2a\x00", of(1, "a", 1, "")},

		// longer than it need be
		{"\x88\x00\x81\x00\x92\x80\x00\x81\x80\x00a\x98\x00\x81\x00\xa0\x00\x80\x00\xaa\x00\x81\x00x", of(1, "a", 1, "x")},

		// other numbers, of each Kind
		{"\x30\x01" + isA + "\x32\x01x\x31" + "12345678" + "\x35" + "1234", of(1, "a", 1, "")},
		{isA + "\x78\x09\x80\x01\x02\xfa\xff\xff\xff\x0f\x02\x00\xff", of(1, "a", 1, "")},
		{isA + "\x32\x80\x20" + strings.Repeat("x", 4096), of(1, "a", 1, "")},
	} {
		if got, ok := resource.Get(c.s); got != c.want || !ok {
			t.Errorf("Get(% .80x) = %v, %v, want %v", c.s, got, ok, c.want)
		}
	}
}

// P4.1: what is not parsed, of another Kind, or not Right is not got; nothing is told then (P2).
func TestGetRefuses(t *testing.T) {
	for _, s := range []string{
		"", "\x00", "a", "\x08", "\x08\x01", "\x12\x01a", "\x18\x01", "\x20\x01", "\x2a\x01x",
		// one of Type, Name, Seq is missing
		"\x12\x01a\x18\x01", "\x08\x01\x18\x01", "\x08\x01\x12\x01a",
		// not parsed
		isA + "\x00", isA + "\x08", isA + "\x12\x02a", isA + "\x30", isA + "\x33", isA + "\x00\xff", "\x00" + isA, isA[:len(isA)-1], isA + "\x32\xff\xff\xff\xff\xff\xff\xff\xff\xff\x01",
		// the last one is wrong
		isA + "\x08\x00", isA + "\x08\x06", isA + "\x12\x00", isA + "\x12\x01*", isA + "\x12\x01A", isA + "\x18\x00", isA + wire.Number(3, 1<<62+1), isA + wire.Text(5, longBody+"x"),
		// Gone is 0 or 1
		isA + "\x20\x02", isA + "\x20\x03", isA + "\x20\x80\x02", isA + wire.Number(4, 1<<32+1), isA + wire.Number(4, 1<<63), isA + wire.Number(4, math.MaxUint64), isA + "\x20\x01\x20\x02",
		// what is gone has no body
		isA + "\x20\x01\x2a\x01x", isA + "\x2a\x01x\x20\x01",
		// Types that would wrap
		isA + wire.Number(1, 1<<32+1), isA + wire.Number(1, 1<<63+1), isA + wire.Number(1, math.MaxUint64), isA + wire.Number(1, 1<<8+1), isA + wire.Number(1, 1<<16+1),
		// another number alone
		"\x30\x01\x3a\x01a\x40\x01",
	} {
		if got, ok := resource.Get(s); got != (api.Resource{}) || ok {
			t.Errorf("Get(% .80x) = %v, %v, want false", s, got, ok)
		}
	}
}

// P4.1: each of the five fields is of its Kind alone, also where another one of its number is the last.
func TestGetKinds(t *testing.T) {
	kinds := map[int]int{1: 0, 2: 2, 3: 0, 4: 0, 5: 2}
	for num := 1; num <= 8; num++ {
		for kind, f := range map[int]wire.Field{
			0: {Num: num, N: 1},
			1: {Num: num, Kind: 1, S: "12345678"},
			2: {Num: num, Kind: 2, S: "a"},
			5: {Num: num, Kind: 5, S: "1234"},
		} {
			s, ok := wire.Put(f)
			if !ok {
				t.Fatal(f)
			}
			own, listed := kinds[num]
			want := !listed || own == kind
			for _, whole := range []string{s + isA + "\x20\x00", isA + s, isA + s + isA + "\x20\x00"} {
				if got, ok := resource.Get(whole); ok != want || !want && got != (api.Resource{}) {
					t.Errorf("Get(% x) = %v, %v, want %v", whole, got, ok, want)
				}
			}
			whole := isA + s + "\x20\x00\x2a\x01x"
			if got, ok := resource.Get(whole); ok != want || want && got.Body != "x" {
				t.Errorf("Get(% x) = %v, %v, want %v", whole, got, ok, want)
			}
		}
	}
}
