package acks

import (
	"cmp"
	"slices"
	"strings"

	"noria/api"
	"noria/message"
)

// refusal is a version that was refused, and why, till it is told: then its Seq alone is asked for, so that it is not told again.
type refusal struct {
	seq    uint64
	told   bool
	detail string
}

// refuse lets that version of k be refused, if it is one of the latest; what was said of it first counts.
func (a *Acks) refuse(k api.Key, seq uint64, detail string) {
	l := a.refused[k]
	place, noted := slices.BinarySearchFunc(l, seq, func(r refusal, seq uint64) int { return cmp.Compare(r.seq, seq) })
	if noted {
		return
	}
	l = slices.Insert(l, place, refusal{seq: seq, detail: strings.Clone(detail)})
	if len(l) > Most {
		// What goes doesn't come again: there are Most behind it from now on.
		l = slices.Delete(l, 0, 1)
	}
	a.refused[k] = l
}

// tellRefused is what was refused of k, and was not told; it is told now.
func (a *Acks) tellRefused(k api.Key) []message.Status {
	var out []message.Status
	l := a.refused[k]
	for i, r := range l {
		if !r.told {
			out = append(out, message.Status{Key: ownKey(k), Seq: r.seq, Detail: r.detail})
			l[i] = refusal{seq: r.seq, told: true}
		}
	}
	return out
}
