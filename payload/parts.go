package payload

import (
	"strings"

	"noria/api"
	"noria/wire"
)

// The Kinds of wire's fields that a payload is put with.
const (
	ofNumber = 0
	ofText   = 2
)

// letters has the letter of each of a payload's fields, by Num from 1 on; that of Name no type tells, as all have it.
const letters = "nporlsak"

// part is a field of a T: its Num and Kind, how it is put, and how it is taken.
type part[T any] struct {
	num, kind int
	put       func(from *T) string
	take      func(into *T, f wire.Field) bool
}

// partsOf is the parts that a payload of that type has, and those that it has not, each by rising Num; false, if there is no such type.
func partsOf(kind int) (has, hasNot []part[Payload], ok bool) {
	own, ok := Has(kind)
	if !ok {
		return nil, nil, false
	}
	own += letters[:1]
	for _, x := range payloadParts() {
		if strings.IndexByte(own, letters[x.num-1]) >= 0 {
			has = append(has, x)
		} else {
			hasNot = append(hasNot, x)
		}
	}
	return has, hasNot, true
}

func payloadParts() []part[Payload] {
	return []part[Payload]{
		text(1, func(p *Payload) *string { return &p.Name }),
		number(2, func(p *Payload) *uint64 { return &p.Port }),
		text(3, func(p *Payload) *string { return &p.Route }),
		list(4, func(p *Payload) *[]Rule { return &p.Rules }, ruleParts()),
		number(5, func(p *Payload) *uint64 { return &p.Policy }),
		text(6, func(p *Payload) *string { return &p.Secret }),
		list(7, func(p *Payload) *[]Addr { return &p.Addrs }, addrParts()),
		text(8, func(p *Payload) *string { return &p.Key }),
	}
}

func ruleParts() []part[Rule] {
	return []part[Rule]{
		text(1, func(r *Rule) *string { return &r.Prefix }),
		text(2, func(r *Rule) *string { return &r.Cluster }),
	}
}

func addrParts() []part[Addr] {
	return []part[Addr]{
		text(1, func(a *Addr) *string { return &a.Host }),
		number(2, func(a *Addr) *uint64 { return &a.Port }),
		number(3, func(a *Addr) *uint64 { return &a.Weight }),
	}
}

// number is the part that is a number of a T, which of tells.
func number[T any](num int, of func(*T) *uint64) part[T] {
	return single(num, ofNumber, of, wire.Number, func(f wire.Field) uint64 { return f.N })
}

// text is the part that is a text of a T, which of tells.
func text[T any](num int, of func(*T) *string) part[T] {
	return single(num, ofText, of, wire.Text, func(f wire.Field) string { return f.S })
}

// single is a part that is put if it is not zero, and of which the last that is taken stays.
func single[T any, V comparable](num, kind int, of func(*T) *V, put func(int, V) string, value func(wire.Field) V) part[T] {
	return part[T]{
		num:  num,
		kind: kind,
		put: func(from *T) string {
			var zero V
			if v := *of(from); v != zero {
				return put(num, v)
			}
			return ""
		},
		take: func(into *T, f wire.Field) bool {
			*of(into) = value(f)
			return true
		},
	}
}

// list is a part that is a list of a T, which of tells: each item, of those parts, is a text of its own, and all that are taken stay.
func list[T, E any](num int, of func(*T) *[]E, parts []part[E]) part[T] {
	return part[T]{
		num:  num,
		kind: ofText,
		put: func(from *T) string {
			var b strings.Builder
			for _, e := range *of(from) {
				b.WriteString(wire.Text(num, putAll(parts, e)))
			}
			return b.String()
		},
		take: func(into *T, f wire.Field) bool {
			l := of(into)
			if len(*l) == api.MaxItems {
				return false
			}
			e, ok := takeAll(parts, f.S)
			if ok {
				*l = append(*l, e)
			}
			return ok
		},
	}
}

// putAll is the parts of v, one behind the other.
func putAll[T any](parts []part[T], v T) string {
	var b strings.Builder
	for _, x := range parts {
		b.WriteString(x.put(&v))
	}
	return b.String()
}

// takeAll takes the fields that s is made of, one behind the other; false, if it is made of none, or one can't be taken.
func takeAll[T any](parts []part[T], s string) (T, bool) {
	var v, none T
	l, ok := wire.Parse(s)
	if !ok {
		return none, false
	}
	for _, f := range l {
		if !takeOne(parts, &v, f) {
			return none, false
		}
	}
	return v, true
}

// takeOne takes a field by the part of its Num; where there is no such part it counts for nothing.
func takeOne[T any](parts []part[T], v *T, f wire.Field) bool {
	for _, x := range parts {
		if x.num == f.Num {
			return x.kind == f.Kind && x.take(v, f)
		}
	}
	return true
}
