package message

import (
	"noria/api"
	"noria/check"
)

// all is the name that stands for all names of a type.
const all = "*"

// checkReq is an error at the first field of r that is not right.
func checkReq(r Req) error {
	return first(
		need(reqType, isType(r.Type)),
		need(reqSub, areAll(r.Sub, api.MaxNames, isNameOrAll)),
		need(reqUnsub, areAll(r.Unsub, api.MaxNames, isNameOrAll)),
		need(reqUnsub, r.Delta || len(r.Unsub) == 0),
		need(reqHave, areAll(r.Have, api.MaxNames, func(h Have) bool { return check.Name(h.Name) })),
		need(reqHave, r.Delta || len(r.Have) == 0),
		need(reqDetail, len(r.Detail) <= api.MaxDetail),
		need(reqDetail, r.Nonce != 0 || r.Detail == ""),
	)
}

// checkResp is an error at the first field of r that is not right.
func checkResp(r Resp) error {
	isOne := func(x api.Resource) bool { return check.Right(x) && x.Type == r.Type && !x.Gone }
	return first(
		need(respType, isType(r.Type)),
		need(respNonce, r.Nonce != 0),
		need(respResources, areAll(r.Resources, api.MaxItems, isOne)),
		need(respRemoved, areAll(r.Removed, api.MaxItems, check.Name)),
		need(respRemoved, r.Delta || len(r.Removed) == 0),
		need(respMore, r.Delta || !r.More),
	)
}

// checkStatus is an error at the first field of s that is not right.
func checkStatus(s Status) error {
	return first(
		need(statusType, isType(s.Key.Type)),
		need(statusName, check.Name(s.Key.Name)),
		need(statusSeq, s.Seq != 0),
		need(statusDetail, len(s.Detail) <= api.MaxDetail),
		need(statusDetail, !s.OK || s.Detail == ""),
	)
}

// first is the first error among these.
func first(errs ...error) error {
	for _, err := range errs {
		if err != nil {
			return err
		}
	}
	return nil
}

func isType(kind int) bool { return kind >= 1 && kind <= api.Types }

func isNameOrAll(s string) bool { return s == all || check.Name(s) }

// areAll tells whether there are at most that many in l, and all are such.
func areAll[T any](l []T, most int, is func(T) bool) bool {
	// Ahead of looking at each: a list that is too long is not gone through.
	if len(l) > most {
		return false
	}
	for _, x := range l {
		if !is(x) {
			return false
		}
	}
	return true
}
