package check

import (
	"errors"
	"strconv"
)

// fault is what is wrong: a word of the document's.
type fault string

func (f fault) Error() string { return string(f) }

// placed is a fault of one item of a list, with its place from 0 on.
type placed struct {
	at  int
	err error
}

func (p placed) Error() string { return "at " + strconv.Itoa(p.at) + ": " + p.err.Error() }

func (p placed) Unwrap() error { return p.err }

// faultIf is that fault where it holds that something is wrong; else none.
func faultIf(wrong bool, word fault) error {
	if wrong {
		return word
	}
	return nil
}

// inWords is an error as the document words it: the fault in it, and behind it the place, if it has one; nothing, if there is no fault.
func inWords(err error) string {
	var what fault
	if !errors.As(err, &what) {
		return ""
	}
	var where placed
	if errors.As(err, &where) {
		return string(what) + " " + strconv.Itoa(where.at)
	}
	return string(what)
}
