package ledger_test

import (
	"cmp"
	"math/rand"
	"regexp"
	"slices"
	"strconv"
	"strings"
	"testing"

	"noria/api"
	"noria/ledger"
)

// plainLedger is the chapter's: a list of marks, as they were begun.
type plainLedger struct{ marks marks }

var plainName = regexp.MustCompile(`\A[a-z0-9./-]{1,64}\z`)

// plainKey tells whether k is the key of one resource.
func plainKey(k key) bool {
	return k.Type >= 1 && k.Type <= 5 && plainName.MatchString(k.Name)
}

func plainOrder(x, y key) int {
	return cmp.Or(x.Type-y.Type, strings.Compare(x.Name, y.Name))
}

func (p *plainLedger) place(k key, seq uint64) int {
	return slices.IndexFunc(p.marks, func(m mark) bool { return m.Key == k && m.Seq == seq })
}

func (p *plainLedger) begin(k key, seq uint64) api.Errno {
	if !plainKey(k) || seq == 0 {
		return api.ErrArg
	}
	for _, m := range p.marks {
		if m.Key == k && m.Seq >= seq {
			return api.ErrStale
		}
	}
	p.marks = append(p.marks, is(k, seq, pending))
	if len(p.marks) > 1024 {
		goes := 0
		for i, m := range p.marks {
			best := p.marks[goes]
			if m.Seq < best.Seq || m.Seq == best.Seq && plainOrder(m.Key, best.Key) < 0 {
				goes = i
			}
		}
		p.marks = append(p.marks[:goes], p.marks[goes+1:]...)
	}
	return api.OK
}

func (p *plainLedger) note(s status) api.Errno {
	if !plainKey(s.Key) || s.Seq == 0 || len(s.Detail) > 256 || s.OK && s.Detail != "" {
		return api.ErrArg
	}
	place := p.place(s.Key, s.Seq)
	if place < 0 {
		return api.ErrNone
	}
	if !s.OK {
		if p.marks[place].State == pending {
			p.marks[place].State, p.marks[place].Detail = refused, s.Detail
		}
		return api.OK
	}
	for i, m := range p.marks {
		if m.Key == s.Key && m.Seq <= s.Seq && m.State == pending {
			p.marks[i].State = taken
		}
	}
	return api.OK
}

func (p *plainLedger) erase() {
	var left marks
	for _, m := range p.marks {
		if m.State != pending {
			left = append(left, m)
		}
	}
	p.marks = left
}

// all is all marks as they are told.
func (p *plainLedger) all() marks {
	l := slices.Clone(p.marks)
	slices.SortFunc(l, func(x, y mark) int {
		return cmp.Or(plainOrder(x.Key, y.Key), cmp.Compare(x.Seq, y.Seq))
	})
	return l
}

// some is what a run of calls takes its arguments from.
type some struct {
	r      *rand.Rand
	names  int
	newest uint64
}

// key is one of some, or, seldom, none.
func (x *some) key() key {
	if x.r.Intn(40) == 0 {
		return noKeys[x.r.Intn(len(noKeys))]
	}
	return at(1+x.r.Intn(3), "n"+strconv.Itoa(x.r.Intn(x.names)))
}

// seq is mostly a little above the last ones, so that much is begun, or any.
func (x *some) seq() uint64 {
	switch x.r.Intn(60) {
	case 0:
		return 0
	case 1:
		return uint64(x.r.Intn(20))
	case 2:
		return most - uint64(x.r.Intn(3))
	case 3:
		return x.r.Uint64()
	}
	x.newest += uint64(x.r.Intn(2))
	return x.newest - min(x.newest, uint64(x.r.Intn(4)))
}

// status is mostly of one of these marks.
func (x *some) status(l marks) status {
	s := status{Key: x.key(), Seq: x.seq(), OK: x.r.Intn(2) == 0}
	if len(l) > 0 && x.r.Intn(5) > 0 {
		m := l[x.r.Intn(len(l))]
		s.Key, s.Seq = m.Key, m.Seq
	}
	if !s.OK || x.r.Intn(10) == 0 {
		s.Detail = []string{"", "size", "rule 3", strings.Repeat("x", 256), strings.Repeat("x", 257)}[x.r.Intn(5)]
	}
	return s
}

// step does one thing to both, and tells what it was.
func (x *some) step(t *testing.T, l *ledger.Ledger, p *plainLedger) string {
	t.Helper()
	words := map[api.Errno]string{api.OK: "ok", api.ErrArg: "arg", api.ErrStale: "stale", api.ErrNone: "none"}
	switch n := x.r.Intn(1000); {
	case n < 600:
		k, seq := x.key(), x.seq()
		got, want := l.Begin(k, seq), p.begin(k, seq)
		if got != want {
			t.Fatalf("Begin(%v, %d) = %d, want %d", k, seq, got, want)
		}
		if got == api.OK && p.place(k, seq) < 0 {
			return "begin, and gone"
		}
		return "begin " + words[got]
	case n < 999:
		s := x.status(p.marks)
		got, want := l.Note(s), p.note(s)
		if got != want {
			t.Fatalf("Note(%v) = %d, want %d", s, got, want)
		}
		return "note " + words[got]
	}
	l.Erase()
	p.erase()
	return "erase"
}

// same holds what both tell against each other.
func (x *some) same(t *testing.T, l *ledger.Ledger, p *plainLedger) {
	t.Helper()
	has(t, l, p.all()...)
	for range 5 {
		k, seq := x.key(), x.seq()
		want := mark{}
		if i := p.place(k, seq); i >= 0 {
			want = p.marks[i]
		}
		if state, detail := l.State(k, seq); state != want.State || detail != want.Detail {
			t.Errorf("State(%v, %d) = %d, %q, want %v", k, seq, state, detail, want)
		}
	}
	if t.Failed() {
		t.FailNow()
	}
}

// P13.1 to P13.3: held against a plain one, call by call: few marks, of which much meets, and as many as there is room for.
func TestPlainly(t *testing.T) {
	r := rand.New(rand.NewSource(1))
	for _, c := range []struct{ rounds, steps, names, every, least int }{
		{1000, 80, 3, 1, 50},
		{4, 8000, 1000, 50, 10},
		{4, 8000, 300, 50, 10},
	} {
		tally := map[string]int{}
		for range c.rounds {
			x := &some{r: r, names: c.names, newest: 20}
			l, p := ledger.New(), &plainLedger{}
			for i := range c.steps {
				tally[x.step(t, l, p)]++
				if i%c.every == 0 {
					x.same(t, l, p)
				}
				if len(p.marks) == ledger.Room {
					tally["full"]++
				}
			}
			x.same(t, l, p)
		}
		for _, what := range []string{"begin ok", "begin arg", "begin stale", "note ok", "note arg", "note none", "erase"} {
			if tally[what] < c.least {
				t.Errorf("%q came %d times", what, tally[what])
			}
		}
		for _, what := range []string{"begin, and gone", "full"} {
			if c.names > 3 && tally[what] < c.least {
				t.Errorf("%q came %d times", what, tally[what])
			}
		}
	}
}

// P13.3: what is Taken, or Refused, stays so while there is a mark of it, and that only goes for another one, where there is no room.
func TestAnythingStays(t *testing.T) {
	for seed := range int64(3) {
		x := &some{r: rand.New(rand.NewSource(seed)), names: 500, newest: 20}
		l, p := ledger.New(), &plainLedger{}
		for range 4000 {
			before := l.Marks()
			x.step(t, l, p)
			went := 0
			for _, m := range before {
				if m.State == pending {
					continue
				}
				state, detail := l.State(m.Key, m.Seq)
				if state == ledger.None && detail == "" {
					went++
				} else if state != m.State || detail != m.Detail {
					t.Fatalf("%v is %d, %q", m, state, detail)
				}
			}
			if went > 1 || went == 1 && len(before) < ledger.Room {
				t.Fatalf("%d went of %d", went, len(before))
			}
		}
	}
}
