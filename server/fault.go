package server

import (
	"errors"

	"noria/api"
)

// Why a request is refused.
var (
	errArg   = errors.New("not right")
	errOrder = errors.New("not at this time")
	errStale = errors.New("stale")
)

// fault is what is wrong with a request, and why it is refused for that.
type fault struct {
	words string
	why   error
}

func (f fault) Error() string { return f.why.Error() + ": " + f.words }

func (f fault) Unwrap() error { return f.why }

// errnoOf is the error that is answered where err stands in the way; OK, if nothing does.
func errnoOf(err error) api.Errno {
	switch {
	case errors.Is(err, errArg):
		return api.ErrArg
	case errors.Is(err, errOrder):
		return api.ErrOrder
	case errors.Is(err, errStale):
		return api.ErrStale
	}
	return api.OK
}
