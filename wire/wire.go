// Package wire is layer 1: fields as bytes.
package wire

import (
	"errors"
	"slices"
)

// The Kinds of fields.
const (
	kindNumber = 0
	kindEight  = 1
	kindBytes  = 2
	kindFour   = 5
)

// Field is a numbered thing: of Kind 0 the number N, else the bytes S.
type Field struct {
	Num, Kind int
	N         uint64
	S         string
}

// Varint is n in groups of seven bits, the lowest first.
func Varint(n uint64) string {
	b := make([]byte, 0, maxVarint)
	for n > 127 {
		b = append(b, byte(n)|128)
		n >>= 7
	}
	return string(append(b, byte(n)))
}

// ReadVarint reads the number that s begins with, and tells of how many bytes it is.
func ReadVarint(s string) (n uint64, size int, ok bool) {
	n, size, err := readNumber(s)
	return n, size, !errors.Is(err, errForm)
}

// Number is Put of a field of Kind 0; nothing, where there is no such field.
func Number(num int, n uint64) string {
	s, _ := Put(Field{Num: num, Kind: kindNumber, N: n})
	return s
}

// Text is Put of a field of Kind 2; nothing, where there is no such field.
func Text(num int, s string) string {
	s, _ = Put(Field{Num: num, Kind: kindBytes, S: s})
	return s
}

// Put is f as bytes; false, if f is not as its Kind asks.
func Put(f Field) (string, bool) {
	if errors.Is(checkField(f), errForm) {
		return "", false
	}
	tag := Varint(uint64(f.Num)<<3 | uint64(f.Kind))
	switch f.Kind {
	case kindNumber:
		return tag + Varint(f.N), true
	case kindBytes:
		return tag + Varint(uint64(len(f.S))) + f.S, true
	}
	return tag + f.S, true
}

// Parse is the fields of which s is made, in order; false, if it is not made of fields.
func Parse(s string) ([]Field, bool) {
	var l []Field
	for f, err := range fieldsOf(s) {
		if errors.Is(err, errForm) {
			return nil, false
		}
		l = append(l, f)
	}
	return l, true
}

// Last is the last field of l with that Num; false, if there is none.
func Last(l []Field, num int) (last Field, ok bool) {
	for f := range withNum(l, num) {
		last, ok = f, true
	}
	return last, ok
}

// All is the fields of l with that Num, in order.
func All(l []Field, num int) []Field {
	return slices.Collect(withNum(l, num))
}
