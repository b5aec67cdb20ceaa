package message

import (
	"noria/api"
	"noria/resource"
	"noria/wire"
)

// The Kinds of wire's fields that messages are put with.
const (
	ofNumber = 0
	ofText   = 2
)

// taker takes a field into what it was made for; it is an error, if that can't be.
type taker func(wire.Field) error

// takers are by the Num of the fields that they take.
type takers map[int]taker

func readReq(s string) (Req, error) {
	var r Req
	var kind, delta uint64
	err := takeMessage(kindReq, s, takers{
		reqType:   number(&kind),
		reqDelta:  number(&delta),
		reqNonce:  number(&r.Nonce),
		reqSub:    each(&r.Sub, itself),
		reqUnsub:  each(&r.Unsub, itself),
		reqHave:   each(&r.Have, readHave),
		reqDetail: text(&r.Detail),
	})
	if err := first(err, atMost(reqType, kind, api.Types), atMost(reqDelta, delta, 1)); err != nil {
		return Req{}, err
	}
	r.Type, r.Delta = int(kind), delta == 1
	return r, checkReq(r)
}

func readHave(s string) (Have, error) {
	var h Have
	err := takeAll(s, takers{
		haveName: text(&h.Name),
		haveSeq:  number(&h.Seq),
	})
	return h, err
}

func readResp(s string) (Resp, error) {
	var r Resp
	var kind, delta, more uint64
	err := takeMessage(kindResp, s, takers{
		respType:      number(&kind),
		respDelta:     number(&delta),
		respNonce:     number(&r.Nonce),
		respVersion:   number(&r.Version),
		respResources: each(&r.Resources, readResource),
		respRemoved:   each(&r.Removed, itself),
		respMore:      number(&more),
	})
	if err := first(err, atMost(respType, kind, api.Types), atMost(respDelta, delta, 1), atMost(respMore, more, 1)); err != nil {
		return Resp{}, err
	}
	r.Type, r.Delta, r.More = int(kind), delta == 1, more == 1
	return r, checkResp(r)
}

func readResource(s string) (api.Resource, error) {
	r, ok := resource.Get(s)
	if !ok {
		return api.Resource{}, errNone
	}
	return r, nil
}

func readPing(s string) (uint64, error) {
	var n uint64
	err := takeMessage(kindPing, s, takers{pingNumber: number(&n)})
	return n, err
}

func readStatus(s string) (Status, error) {
	var t Status
	var kind, ok uint64
	err := takeMessage(kindStatus, s, takers{
		statusType:   number(&kind),
		statusName:   text(&t.Key.Name),
		statusSeq:    number(&t.Seq),
		statusOK:     number(&ok),
		statusDetail: text(&t.Detail),
	})
	if err := first(err, atMost(statusType, kind, api.Types), atMost(statusOK, ok, 1)); err != nil {
		return Status{}, err
	}
	t.Key.Type, t.OK = int(kind), ok == 1
	return t, checkStatus(t)
}

// atMost is an error at a field, if its number is above most: it is held against as it came, as one of 64 bits need not fit what is made of it.
func atMost(num int, n, most uint64) error { return need(num, n <= most) }

// takeMessage takes the fields of s, which is to be of that Kind.
func takeMessage(kind int, s string, by takers) error {
	if Kind(s) != kind {
		return errNone
	}
	return takeAll(s[1:], by)
}

// takeAll takes the fields that s is made of, one behind the other; those that nobody takes count for nothing.
func takeAll(s string, by takers) error {
	l, ok := wire.Parse(s)
	if !ok {
		return errNone
	}
	for _, f := range l {
		take, listed := by[f.Num]
		if !listed {
			continue
		}
		if err := take(f); err != nil {
			return fault{f.Num, err}
		}
	}
	return nil
}

// number takes a number; of several the last one stays.
func number(into *uint64) taker {
	return ofKind(ofNumber, func(f wire.Field) error {
		*into = f.N
		return nil
	})
}

// text takes a text; of several the last one stays.
func text(into *string) taker {
	return ofKind(ofText, func(f wire.Field) error {
		*into = f.S
		return nil
	})
}

// each takes texts; what each of them reads as stays.
func each[T any](into *[]T, read func(string) (T, error)) taker {
	return ofKind(ofText, func(f wire.Field) error {
		x, err := read(f.S)
		if err == nil {
			*into = append(*into, x)
		}
		return err
	})
}

// itself reads a text as what it is.
func itself(s string) (string, error) { return s, nil }

// ofKind takes as take does, but fields of that Kind alone.
func ofKind(kind int, take taker) taker {
	return func(f wire.Field) error {
		if f.Kind != kind {
			return errNone
		}
		return take(f)
	}
}
