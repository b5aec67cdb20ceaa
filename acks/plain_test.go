package acks_test

import (
	"cmp"
	"math/rand"
	"regexp"
	"slices"
	"strconv"
	"strings"
	"testing"

	"noria/acks"
	"noria/api"
)

// noted is a status, and whose it is.
type noted struct {
	id int
	status
}

// plainAcks is the chapter's: all that was noted, and all that was told, as it came.
type plainAcks struct {
	notes []noted
	keys  keys
	told  statuses
}

var plainName = regexp.MustCompile(`\A[a-z0-9./-]{1,64}\z`)

func plainOrder(x, y key) int {
	return cmp.Or(x.Type-y.Type, strings.Compare(x.Name, y.Name))
}

func (p *plainAcks) note(id int, s status) api.Errno {
	if id < 1 || id > 32 || s.Key.Type < 1 || s.Key.Type > 5 || !plainName.MatchString(s.Key.Name) || s.Seq == 0 || len(s.Detail) > 256 || s.OK && s.Detail != "" {
		return api.ErrArg
	}
	p.notes = append(p.notes, noted{id, s})
	if !slices.Contains(p.keys, s.Key) {
		p.keys = append(p.keys, s.Key)
	}
	return api.OK
}

func (p *plainAcks) drop(id int) {
	var left []noted
	for _, n := range p.notes {
		if !n.OK || n.id != id {
			left = append(left, n)
		}
	}
	p.notes = left
}

func (p *plainAcks) least(k key, who ids) uint64 {
	all := []uint64{}
	for _, id := range who {
		has := uint64(0)
		for _, n := range p.notes {
			if n.OK && n.id == id && n.Key == k {
				has = max(has, n.Seq)
			}
		}
		all = append(all, has)
	}
	if len(all) == 0 {
		return 0
	}
	return slices.Min(all)
}

// refused is what is kept of what was refused of k, by Seq.
func (p *plainAcks) refused(k key) statuses {
	first := map[uint64]string{}
	var l []uint64
	for _, n := range p.notes {
		if _, is := first[n.Seq]; n.Key == k && !n.OK && !is {
			first[n.Seq] = n.Detail
			l = append(l, n.Seq)
		}
	}
	slices.Sort(l)
	var out statuses
	for _, seq := range l[max(0, len(l)-8):] {
		out = append(out, refuses(k, seq, first[seq]))
	}
	return out
}

func (p *plainAcks) ready(k key, who ids) statuses {
	var out statuses
	for _, s := range p.refused(k) {
		if !slices.Contains(p.told, s) {
			out = append(out, s)
		}
	}
	above := true
	least := p.least(k, who)
	for _, s := range p.told {
		above = above && !(s.OK && s.Key == k && s.Seq >= least)
	}
	if above && least > 0 {
		out = append(out, took(k, least))
	}
	p.told = append(p.told, out...)
	return out
}

func (p *plainAcks) forget(k key) {
	p.notes = slices.DeleteFunc(p.notes, func(n noted) bool { return n.Key == k })
	p.told = slices.DeleteFunc(p.told, func(s status) bool { return s.Key == k })
	p.keys = slices.DeleteFunc(p.keys, func(x key) bool { return x == k })
}

func (p *plainAcks) all() keys {
	l := slices.Clone(p.keys)
	slices.SortFunc(l, plainOrder)
	return l
}

// some is what a run of calls takes its arguments from.
type some struct {
	r          *rand.Rand
	ids, names int
	newest     uint64
}

func (x *some) key() key {
	return at(1+x.r.Intn(2), "n"+strconv.Itoa(x.r.Intn(x.names)))
}

// id is one of some, or, seldom, none.
func (x *some) id() int {
	if x.r.Intn(40) == 0 {
		return noIDs[x.r.Intn(len(noIDs))]
	}
	return 1 + x.r.Intn(x.ids)
}

func (x *some) who() (l ids) {
	for range x.r.Intn(x.ids + 2) {
		l = append(l, x.id())
	}
	return l
}

// seq is mostly one of the last ones, or any.
func (x *some) seq() uint64 {
	if x.r.Intn(60) == 0 {
		return seqs[x.r.Intn(8)]
	}
	x.newest += uint64(x.r.Intn(4) / 3)
	return x.newest - min(x.newest, uint64(x.r.Intn(12)))
}

// status is mostly one that can be put.
func (x *some) status() status {
	if x.r.Intn(40) == 0 {
		return noStatuses[x.r.Intn(len(noStatuses))]
	}
	if x.r.Intn(2) == 0 {
		return took(x.key(), x.seq())
	}
	return refuses(x.key(), x.seq(), []string{"", "size", "rule 3", strings.Repeat("x", 256)}[x.r.Intn(4)])
}

// step does one thing to both, and tells what it was.
func (x *some) step(t *testing.T, a *acks.Acks, p *plainAcks) string {
	t.Helper()
	switch n := x.r.Intn(100); {
	case n < 70:
		id, s := x.id(), x.status()
		got, want := a.Note(id, s), p.note(id, s)
		if got != want {
			t.Fatalf("Note(%d, %.80v) = %d, want %d", id, s, got, want)
		}
		return "note " + strconv.Itoa(int(got))
	case n < 90:
		k, who := x.key(), x.who()
		got, want := a.Ready(k, who), p.ready(k, who)
		if !slices.Equal(got, want) {
			t.Fatalf("Ready(%v, %v) = %.300v, want %.300v", k, who, got, want)
		}
		if len(got) == 0 {
			return "nothing to tell"
		} else if got[len(got)-1].OK {
			return "told as taken"
		}
		return "told as refused"
	case n < 95:
		id := x.id()
		a.Drop(id)
		p.drop(id)
		return "drop"
	}
	k := x.key()
	a.Forget(k)
	p.forget(k)
	return "forget"
}

// same holds what both tell against each other.
func (x *some) same(t *testing.T, a *acks.Acks, p *plainAcks) {
	t.Helper()
	wantKeys(t, a, p.all()...)
	for range 4 {
		k, who := x.key(), x.who()
		wantLeast(t, a, k, p.least(k, who), who...)
	}
	if t.Failed() {
		t.FailNow()
	}
}

// P15.1, P15.2: held against plain ones, call by call: few keys, of which much is noted, and many, by few and by all.
func TestPlainly(t *testing.T) {
	r := rand.New(rand.NewSource(1))
	for _, c := range []struct{ rounds, steps, ids, names int }{
		{300, 200, 3, 1},
		{300, 200, 2, 4},
		{20, 2000, 32, 30},
	} {
		tally := map[string]int{}
		for range c.rounds {
			x := &some{r, c.ids, c.names, 20}
			a, p := acks.New(), &plainAcks{}
			for range c.steps {
				tally[x.step(t, a, p)]++
				x.same(t, a, p)
			}
		}
		for _, what := range []string{"note 0", "note 1", "nothing to tell", "told as taken", "told as refused", "drop", "forget"} {
			if tally[what] < 100 && (what != "told as taken" || c.ids < 32) {
				t.Errorf("%q came %d times of %v", what, tally[what], c)
			}
		}
	}
}

// P15.3: what is told was noted, just so: as refused with those words, as taken by one that has that, and by all that are asked for that or more; each once.
func TestNothingElseIsTold(t *testing.T) {
	said := map[bool]int{}
	for seed := range int64(30) {
		x := &some{rand.New(rand.NewSource(seed)), 4, 3, 5}
		a := acks.New()
		var all []noted
		var told statuses
		for range 1000 {
			id, s := x.id(), x.status()
			if a.Note(id, s) == api.OK {
				all = append(all, noted{id, s})
			}
			if x.r.Intn(20) == 0 {
				a.Drop(x.id())
			}
			k, who := x.key(), x.who()
			for _, s := range a.Ready(k, who) {
				said[s.OK]++
				if s.Key != k || slices.Contains(told, s) {
					t.Fatalf("Ready(%v, %v) tells %.80v", k, who, s)
				}
				told = append(told, s)
				by := func(is func(n noted) bool) bool { return slices.ContainsFunc(all, is) }
				if !by(func(n noted) bool { return n.status == s && (!s.OK || slices.Contains(who, n.id)) }) {
					t.Fatalf("%.80v is told, and was not noted", s)
				}
				for _, id := range who {
					if s.OK && !by(func(n noted) bool { return n.OK && n.id == id && n.Key == k && n.Seq >= s.Seq }) {
						t.Fatalf("%v is told, and %d did not take it", s, id)
					}
				}
			}
		}
	}
	if said[true] < 200 || said[false] < 200 {
		t.Error(said)
	}
}
