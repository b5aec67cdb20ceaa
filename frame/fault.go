package frame

import (
	"errors"
	"strconv"

	"noria/api"
)

// errShort is that a message is not whole yet: what comes may mend it.
var errShort = errors.New("not whole yet")

// badLength is a length that no message has: nothing that comes can mend it.
type badLength struct {
	length uint64
	errno  api.Errno
}

func (b badLength) Error() string {
	return "no message has " + strconv.FormatUint(b.length, 10) + " bytes"
}

// fault is why no message is taken off, and behind how many bytes.
type fault struct {
	at  int
	err error
}

func (f fault) Error() string { return "at " + strconv.Itoa(f.at) + ": " + f.err.Error() }

func (f fault) Unwrap() error { return f.err }

// checkLength is a badLength, if no message has that many bytes.
func checkLength(n uint64) error {
	switch {
	case n == 0:
		return badLength{n, api.ErrForm}
	case n > api.MaxFrame:
		return badLength{n, api.ErrLong}
	}
	return nil
}
