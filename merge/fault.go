package merge

import (
	"errors"
	"strconv"

	"noria/api"
	"noria/names"
)

// Why a call is refused.
var (
	errArg  = errors.New("no such id, or type")
	errFull = errors.New("too many names")
	errNone = errors.New("nothing is wanted")
)

// fault is why a call of that id is refused.
type fault struct {
	id  int
	why error
}

func (f fault) Error() string { return "id " + strconv.Itoa(f.id) + ": " + f.why.Error() }

func (f fault) Unwrap() error { return f.why }

// errnoOf is the error that is answered where err stands in the way; OK, if nothing does.
func errnoOf(err error) api.Errno {
	switch {
	case errors.Is(err, errArg):
		return api.ErrArg
	case errors.Is(err, errFull):
		return api.ErrFull
	case errors.Is(err, errNone):
		return api.ErrNone
	}
	return api.OK
}

// checkSet is what stands in the way of wanting that, whatever others want.
func checkSet(id, kind int, want names.Set) error {
	switch {
	case id < 1 || id > api.MaxNodes || kind < 1 || kind > api.Types:
		return fault{id, errArg}
	case len(want.List()) > api.MaxNames:
		return fault{id, errFull}
	}
	return nil
}

// checkDrop is what stands in the way of dropping that id.
func (m *Merge) checkDrop(id int) error {
	for kind := 1; kind <= api.Types; kind++ {
		if !m.wants[topic{id, kind}].Empty() {
			return nil
		}
	}
	return fault{id, errNone}
}
