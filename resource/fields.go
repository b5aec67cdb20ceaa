package resource

import (
	"noria/api"
	"noria/wire"
)

// The Kinds of wire's fields that a resource is put with.
const (
	ofNumber = 0
	ofText   = 2
)

// hasOtherKind tells whether f is one of a resource's fields, but not of the Kind that it is put with.
func hasOtherKind(f wire.Field) bool {
	switch f.Num {
	case numType, numSeq, numGone:
		return f.Kind != ofNumber
	case numName, numBody:
		return f.Kind != ofText
	}
	return false
}

// made is what the fields make, right or not; false, if a number among them is more than there is of its kind.
func made(l []wire.Field) (api.Resource, bool) {
	last := func(num int) wire.Field {
		// Where there is none it is 0, and empty, as what is left out counts.
		f, _ := wire.Last(l, num)
		return f
	}
	kind, gone := last(numType).N, last(numGone).N
	// Held against as it came: a number of 64 bits need not fit an int.
	if kind > api.Types || gone > 1 {
		return api.Resource{}, false
	}
	return api.Resource{
		Key:  api.Key{Type: int(kind), Name: last(numName).S},
		Seq:  last(numSeq).N,
		Gone: gone == 1,
		Body: last(numBody).S,
	}, true
}
