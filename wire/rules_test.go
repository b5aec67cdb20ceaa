package wire_test

import (
	"slices"
	"strings"
	"testing"
	"unsafe"

	"noria/wire"
)

// fieldsWithRoom is a list of fields with others behind it in its array; told are both.
func fieldsWithRoom() (l, array []wire.Field) {
	array = []wire.Field{{Num: 1, N: 5}, {Num: 2, Kind: 2, S: "a"}, {Num: 1, N: 6}, {Num: 1, N: 7}, {Num: 3, Kind: 5, S: "abcd"}}
	return array[:3], array
}

// P3: a list that is handed in stays, and what stands behind it counts for nothing.
func TestListsStay(t *testing.T) {
	l, array := fieldsWithRoom()
	before := slices.Clone(array)
	if got := wire.All(l, 1); !slices.Equal(got, []wire.Field{{Num: 1, N: 5}, {Num: 1, N: 6}}) {
		t.Errorf("All = %v", got)
	}
	if got, ok := wire.Last(l, 1); got.N != 6 || !ok {
		t.Errorf("Last = %v, %v", got, ok)
	}
	if got, ok := wire.Last(l, 3); got != (wire.Field{}) || ok {
		t.Errorf("Last = %v, %v", got, ok)
	}
	if !slices.Equal(array, before) {
		t.Errorf("%v became %v", before, array)
	}
}

// P3: a list that is told is new, with its spare room: what is written there is seen nowhere else.
func TestListsAreNew(t *testing.T) {
	l, array := fieldsWithRoom()
	before := slices.Clone(array)
	one, two := wire.All(l, 1), wire.All(l, 1)
	scribble(one)
	if !slices.Equal(array, before) || !slices.Equal(two, []wire.Field{{Num: 1, N: 5}, {Num: 1, N: 6}}) {
		t.Errorf("All shares: %v, %v", array, two)
	}
	s := "\x08\x05\x12\x01a\x08\x06"
	one, _ = wire.Parse(s)
	two, _ = wire.Parse(s)
	scribble(one)
	if !slices.Equal(two, []wire.Field{{Num: 1, N: 5}, {Num: 2, Kind: 2, S: "a"}, {Num: 1, N: 6}}) {
		t.Errorf("Parse shares: %v", two)
	}
}

func scribble(l []wire.Field) {
	l = l[:cap(l)]
	for i := range l {
		l[i] = wire.Field{Num: 99, Kind: 2, S: "scribbled"}
	}
}

// P3: a text that is parsed is not kept by its fields.
func TestTextsAreNotKept(t *testing.T) {
	s := strings.Clone("\x12\x04abcd\x19" + "12345678" + "\x1dwxyz")
	l, ok := wire.Parse(s)
	if len(l) != 3 || !ok {
		t.Fatal(l, ok)
	}
	from := uintptr(unsafe.Pointer(unsafe.StringData(s)))
	for _, f := range l {
		at := uintptr(unsafe.Pointer(unsafe.StringData(f.S)))
		if at >= from && at < from+uintptr(len(s)) {
			t.Errorf("%q stands in the text that was parsed", f.S)
		}
	}
}

// P4: the same is answered to the same, whatever was asked between.
func TestSameAnswers(t *testing.T) {
	texts := append(slices.Clone(noFields), "", "\x08\x05", "\x12\x02ab\x08\x05", "\x1912345678")
	tell := func(s string) (l []wire.Field, n uint64, size int, ok, is bool) {
		l, ok = wire.Parse(s)
		n, size, is = wire.ReadVarint(s)
		return
	}
	for _, s := range texts {
		l, n, size, ok, is := tell(s)
		for _, other := range texts {
			tell(other)
		}
		l2, n2, size2, ok2, is2 := tell(s)
		if !slices.Equal(l, l2) || n != n2 || size != size2 || ok != ok2 || is != is2 {
			t.Errorf("% x: another answer", s)
		}
	}
}
