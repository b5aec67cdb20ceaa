package server

import (
	"slices"

	"noria/api"
	"noria/check"
	"noria/message"
	"noria/names"
)

// maxNonce is from where on nothing is sent any more.
const maxNonce = 1 << 62

// mayTell tells whether anything may be sent now.
func (t Topic) mayTell() bool { return t.Asked && t.Open == 0 && t.Last < maxNonce }

// held is what there is of what is wanted.
func (t Topic) held(kind int, l []api.Resource) []api.Resource {
	has := hasOf(t.Want)
	return rising(ofResource, those(l, func(r api.Resource) bool {
		return r.Type == kind && !r.Gone && check.Right(r) && has(r.Name)
	}))
}

// newest is the greatest Seq of what is held; 0, if nothing is.
func newest(held []api.Resource) uint64 {
	var seq uint64
	for _, r := range held {
		seq = max(seq, r.Seq)
	}
	return seq
}

// tellAll is what is told of a whole stream, and what was sent then; false, if nothing is to be told.
func (t Topic) tellAll(held []api.Resource, known names.Set) (message.Resp, []message.Have, bool) {
	isKnown := known.All || names.Less(t.Want, known).Empty()
	if !isKnown || len(held) > Batch {
		return message.Resp{}, nil, false
	}
	sent := sentOf(held)
	if !t.Due && slices.Equal(sent, t.Sent) {
		return message.Resp{}, nil, false
	}
	return message.Resp{Resources: held}, sent, true
}

// tellTurned is what is told of Delta, and what was sent then; false, if nothing is to be told.
func (t Topic) tellTurned(held []api.Resource, known names.Set) (message.Resp, []message.Have, bool) {
	fresh, removed := t.fresh(held), t.removed(held, known)
	// Who wants all is told once that it is all, even where there is nothing.
	isEnd := t.Due && t.Want.All && known.All
	if len(fresh) == 0 && len(removed) == 0 && !isEnd {
		return message.Resp{}, nil, false
	}
	r := message.Resp{Resources: batch(fresh), Removed: batch(removed)}
	r.More = len(fresh) > Batch || len(removed) > Batch || t.Want.All && !known.All
	return r, rising(ofHave, sentOf(r.Resources), noneOf(r.Removed), t.Sent), true
}

// fresh is what is held and was not sent as it is held now.
func (t Topic) fresh(held []api.Resource) []api.Resource {
	sent := placeIn(t.Sent, ofHave)
	return those(held, func(r api.Resource) bool {
		i := sent(r.Name)
		return i < 0 || t.Sent[i].Seq != r.Seq
	})
}

// removed is the names, rising, of which is to be told that there is none: of what was sent and is not held any more, and of what is wanted by name.
func (t Topic) removed(held []api.Resource, known names.Set) []string {
	has, heldAt, sent := hasOf(known), placeIn(held, ofResource), placeIn(t.Sent, ofHave)
	isNone := func(name string) bool { return has(name) && heldAt(name) < 0 }
	was := those(t.Sent, func(h message.Have) bool { return h.Seq > 0 && isNone(h.Name) })
	out := those(t.Want.Names, func(name string) bool { return isNone(name) && sent(name) < 0 })
	for _, h := range was {
		out = append(out, h.Name)
	}
	return rising(itself, out)
}

// batch is the first of l, as many as a response has.
func batch[T any](l []T) []T { return l[:min(len(l), Batch)] }

// sentOf is what was sent, where these are.
func sentOf(l []api.Resource) []message.Have {
	var out []message.Have
	for _, r := range l {
		out = append(out, message.Have{Name: r.Name, Seq: r.Seq})
	}
	return out
}

// noneOf is what was sent, where it was told that there is none of these.
func noneOf(l []string) []message.Have {
	var out []message.Have
	for _, name := range l {
		out = append(out, message.Have{Name: name})
	}
	return out
}
