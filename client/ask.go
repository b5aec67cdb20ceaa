package client

import (
	"noria/api"
	"noria/message"
	"noria/names"
)

// isType tells whether there is such a type, and so a topic of it.
func isType(kind int) bool { return kind >= 1 && kind <= api.Types }

// checkAsk is what stands in the way of asking for that.
func (c Client) checkAsk(kind int, want names.Set, have []message.Have) error {
	if !isType(kind) {
		return fault{api.ErrArg, "no such type"}
	}
	t := c.Topics[kind]
	if t.Open && names.Same(t.Want, want) {
		return inTopic{kind, fault{api.ErrNone, "nothing else is wanted"}}
	}
	// How many are wanted is held against the limit of Delta too, where the request tells but some of them.
	sub, unsub := c.turn(t, want)
	if exceeds(api.MaxNames, len(want.List()), len(sub), len(unsub), len(have)) {
		return inTopic{kind, fault{api.ErrFull, "too many names"}}
	}
	return nil
}

// checkTake is what stands in the way of taking r.
func (c Client) checkTake(r message.Resp) error {
	if !message.RightResp(r) {
		return fault{api.ErrArg, "no right response"}
	}
	t := c.Topics[r.Type]
	switch {
	case !t.Open:
		return inTopic{r.Type, fault{api.ErrOrder, "nothing was asked"}}
	case r.Delta != c.Delta:
		return inTopic{r.Type, fault{api.ErrOrder, "another Delta"}}
	case r.Nonce <= t.Nonce:
		return inTopic{r.Type, fault{api.ErrStale, "a later one came"}}
	}
	return nil
}

// checkAnswer is what stands in the way of such an answer.
func (c Client) checkAnswer(kind int, detail string) error {
	switch {
	case !isType(kind):
		return fault{api.ErrArg, "no such type"}
	case exceeds(api.MaxDetail, len(detail)):
		return inTopic{kind, fault{api.ErrArg, "too long a detail"}}
	case c.Topics[kind].Nonce == 0:
		return inTopic{kind, fault{api.ErrNone, "nothing came"}}
	}
	return nil
}

// exceeds tells whether one of these sizes is above the most that may be.
func exceeds(most int, sizes ...int) bool {
	for _, n := range sizes {
		if n > most {
			return true
		}
	}
	return false
}

// request is what asks for want, where nothing stands in the way.
func (c Client) request(kind int, want names.Set, have []message.Have) message.Req {
	t := c.Topics[kind]
	r := message.Req{Type: kind, Delta: c.Delta}
	r.Sub, r.Unsub = c.turn(t, want)
	if !c.Delta {
		r.Nonce = t.Nonce
		return r
	}
	if !t.Open {
		r.Have = wanted(want, have)
	}
	return r
}

// turn is what a request says is wanted, and of Delta what no more, where t turns to want.
func (c Client) turn(t Topic, want names.Set) (sub, unsub []string) {
	if !c.Delta {
		return want.List(), nil
	}
	return names.Less(want, t.Want).List(), names.Less(t.Want, want).List()
}

// wanted is those of have, in order, that want has.
func wanted(want names.Set, have []message.Have) []message.Have {
	var out []message.Have
	for _, h := range have {
		if want.Has(h.Name) {
			out = append(out, h)
		}
	}
	return out
}
