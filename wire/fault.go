package wire

import (
	"errors"
	"strconv"
)

// errForm is what every fault wraps: there is no number, or no field.
var errForm = errors.New("not of the form")

// fault is what is wrong with a text, and behind how many of its bytes: the places of a fault in a fault add up.
type fault struct {
	at  int
	err error
}

func (f fault) Error() string { return "at " + strconv.Itoa(f.at) + ": " + f.err.Error() }

func (f fault) Unwrap() error { return f.err }

// checkField is an error, if f is none that can be put.
func checkField(f Field) error {
	switch {
	case !isNum(f.Num), !isKind(f.Kind):
		return errForm
	case f.Kind != kindNumber && f.N != 0:
		return errForm
	case f.Kind != kindBytes && len(f.S) != fixedSize(f.Kind):
		return errForm
	}
	return nil
}

func isNum(num int) bool { return num >= 1 && num <= maxNum }

func isKind(kind int) bool {
	return kind == kindNumber || kind == kindBytes || fixedSize(kind) > 0
}

// fixedSize is how many bytes S has, where the Kind alone tells it (of Kind 0 none); of Kind 2 each S tells its own.
func fixedSize(kind int) int {
	switch kind {
	case kindEight:
		return 8
	case kindFour:
		return 4
	}
	return 0
}
