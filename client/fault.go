package client

import (
	"errors"
	"strconv"

	"noria/api"
)

// fault is what stands in the way of a call, with the error that the call answers.
type fault struct {
	errno api.Errno
	words string
}

func (f fault) Error() string { return f.words }

// inTopic is a fault of the topic of that type.
type inTopic struct {
	kind int
	err  error
}

func (t inTopic) Error() string { return "topic " + strconv.Itoa(t.kind) + ": " + t.err.Error() }

func (t inTopic) Unwrap() error { return t.err }

// errnoOf is the error that the fault in err answers; OK, if there is none.
func errnoOf(err error) api.Errno {
	var f fault
	if errors.As(err, &f) {
		return f.errno
	}
	return api.OK
}
