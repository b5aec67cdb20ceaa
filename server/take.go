package server

import (
	"slices"

	"noria/message"
	"noria/names"
)

// checkTake is what stands in the way of taking r.
func (s Server) checkTake(r message.Req) error {
	if !message.RightReq(r) {
		return fault{"no right request", errArg}
	}
	t := s.Topics[r.Type]
	switch {
	case s.Begun && r.Delta != s.Delta:
		return fault{"another Delta", errOrder}
	case r.Nonce > t.Last:
		return fault{"an answer to what was not sent", errOrder}
	case !r.Delta && !t.isAnswered(r) && r.Nonce != t.Last:
		return fault{"who asks did not see what was sent last", errStale}
	}
	return nil
}

// isAnswered tells whether r answers what is open.
func (t Topic) isAnswered(r message.Req) bool { return r.Nonce != 0 && r.Nonce == t.Open }

// hear is the topic once r was heard, and what came of it.
func (t Topic) hear(r message.Req) (Topic, Event) {
	var e Event
	if t.isAnswered(r) {
		e = Event{Answered: true, Detail: r.Detail, Sent: slices.Clone(t.Sent)}
		t.Open = 0
	}
	want := t.turn(r)
	e.Changed = !t.Asked || !names.Same(want, t.Want)
	t.Sent = t.left(r, want)
	t.Want, t.Asked, t.Due = want, true, t.Due || e.Changed
	return t, e
}

// turn is what is wanted once r was heard.
func (t Topic) turn(r message.Req) names.Set {
	if !r.Delta {
		return names.Of(r.Sub)
	}
	return t.Want.Add(r.Sub).Drop(r.Unsub)
}

// left is what counts as sent once r was heard, where want is what is wanted then.
func (t Topic) left(r message.Req, want names.Set) []message.Have {
	has, sub, ahead := hasOf(want), placeIn(r.Sub, itself), placeIn(t.Want.Names, itself)
	// Who asks for a name anew is to be told of it, also where all of the type was wanted ahead.
	anew := func(name string) bool { return r.Delta && sub(name) >= 0 && ahead(name) < 0 }
	sent := those(t.Sent, func(h message.Have) bool { return has(h.Name) && !anew(h.Name) })
	if t.Asked {
		return sent
	}
	had := those(r.Have, func(h message.Have) bool { return has(h.Name) })
	return rising(ofHave, sent, had)
}
