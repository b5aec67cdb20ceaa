package message

import (
	"errors"
	"strconv"
)

// errNone is what every fault wraps: there is no such message.
var errNone = errors.New("no message")

// fault is what is wrong with a field, of that Num; a field in a field has a fault in a fault.
type fault struct {
	num int
	err error
}

func (f fault) Error() string { return "field " + strconv.Itoa(f.num) + ": " + f.err.Error() }
func (f fault) Unwrap() error { return f.err }

// need is an error at a field, where what is to hold of it does not.
func need(num int, holds bool) error {
	if holds {
		return nil
	}
	return fault{num, errNone}
}
