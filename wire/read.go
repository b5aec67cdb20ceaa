package wire

import (
	"iter"
	"strings"
)

const (
	maxNum    = 1<<29 - 1
	maxTag    = 1<<32 - 1
	maxVarint = 10
)

// fieldsOf goes over the fields of s; where s is not made of fields an error comes last.
func fieldsOf(s string) iter.Seq2[Field, error] {
	return func(yield func(Field, error) bool) {
		for at := 0; at < len(s); {
			f, size, err := readField(s[at:])
			if err != nil {
				yield(Field{}, fault{at, err})
				return
			}
			if !yield(f, nil) {
				return
			}
			at += size
		}
	}
}

// withNum goes over the fields of l with that Num.
func withNum(l []Field, num int) iter.Seq[Field] {
	return func(yield func(Field) bool) {
		for _, f := range l {
			if f.Num == num && !yield(f) {
				return
			}
		}
	}
}

// readField reads the field that s begins with, and tells of how many bytes it is.
func readField(s string) (Field, int, error) {
	f, at, err := readTag(s)
	if err != nil {
		return Field{}, 0, err
	}
	size := uint64(fixedSize(f.Kind))
	if size == 0 {
		n, skip, err := readNumber(s[at:])
		if err != nil {
			return Field{}, 0, fault{at, err}
		}
		at += skip
		if f.Kind == kindNumber {
			f.N = n
		} else {
			size = n
		}
	}
	// Held against what is there as it came: a size of 64 bits need not fit an int.
	if size > uint64(len(s)-at) {
		return Field{}, 0, fault{at, errForm}
	}
	end := at + int(size)
	// A copy, so that a short field does not keep the whole text it came in.
	f.S = strings.Clone(s[at:end])
	return f, end, nil
}

// readTag reads the Num and the Kind of the field that s begins with, and tells of how many bytes they are.
func readTag(s string) (Field, int, error) {
	tag, size, err := readNumber(s)
	if err != nil {
		return Field{}, 0, err
	}
	if tag > maxTag {
		return Field{}, 0, fault{0, errForm}
	}
	f := Field{Num: int(tag >> 3), Kind: int(tag & 7)}
	if !isNum(f.Num) || !isKind(f.Kind) {
		return Field{}, 0, fault{0, errForm}
	}
	return f, size, nil
}

// readNumber reads the number that s begins with, and tells of how many bytes it is.
func readNumber(s string) (uint64, int, error) {
	n := uint64(0)
	for i := range min(len(s), maxVarint) {
		b := s[i]
		// Nine bytes hold 63 bits: of the tenth there is room for one bit.
		if i == maxVarint-1 && b > 1 {
			return 0, 0, fault{i, errForm}
		}
		n |= uint64(b&127) << (7 * i)
		if b < 128 {
			return n, i + 1, nil
		}
	}
	return 0, 0, fault{len(s), errForm}
}
