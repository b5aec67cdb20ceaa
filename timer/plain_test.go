package timer_test

import (
	"math/rand"
	"slices"
	"strconv"
	"strings"
	"testing"

	"noria/api"
	"noria/timer"
)

// plainTimer is one of plainTimers.
type plainTimer struct {
	id string
	at uint64
}

// plainTimers are the chapter's: a list, in the order in which they were set.
type plainTimers []plainTimer

func (p *plainTimers) place(id string) int {
	return slices.IndexFunc(*p, func(x plainTimer) bool { return x.id == id })
}

func (p *plainTimers) set(id string, at uint64) api.Errno {
	i := p.place(id)
	switch {
	case id == "" || len(id) > 64:
		return api.ErrArg
	case i < 0 && len(*p) == 1024:
		return api.ErrFull
	case i >= 0:
		*p = slices.Delete(*p, i, i+1)
	}
	*p = append(*p, plainTimer{id, at})
	return api.OK
}

func (p *plainTimers) stop(id string) bool {
	i := p.place(id)
	if i >= 0 {
		*p = slices.Delete(*p, i, i+1)
	}
	return i >= 0
}

func (p *plainTimers) at(id string) (uint64, bool) {
	if i := p.place(id); i >= 0 {
		return (*p)[i].at, true
	}
	return 0, false
}

// first is where the one stands that falls due first.
func (p *plainTimers) first() int {
	best := -1
	for i, x := range *p {
		if best < 0 || x.at < (*p)[best].at {
			best = i
		}
	}
	return best
}

func (p *plainTimers) due(now uint64) (l ids) {
	for {
		i := p.first()
		if i < 0 || (*p)[i].at > now {
			return l
		}
		l = append(l, (*p)[i].id)
		*p = slices.Delete(*p, i, i+1)
	}
}

// someTime is any time: mostly one of a few, so that many meet, or near the ends.
func someTime(r *rand.Rand) uint64 {
	switch r.Intn(12) {
	case 0:
		return last - uint64(r.Intn(3))
	case 1:
		return 1<<63 - uint64(r.Intn(2))
	case 2:
		return r.Uint64()
	case 3:
		return 1<<32 + uint64(r.Intn(3))
	}
	return uint64(r.Intn(20))
}

// someId is one of so many ids, or, seldom, none.
func someId(r *rand.Rand, many int) string {
	if r.Intn(40) == 0 {
		return strings.Repeat("x", []int{0, 65, 64, 100}[r.Intn(4)])
	}
	return strconv.Itoa(r.Intn(many))
}

// checkStep does one thing to both, and holds what is answered against each other.
func checkStep(t *testing.T, r *rand.Rand, x *timer.Timers, p *plainTimers, many int) {
	t.Helper()
	id, at := someId(r, many), someTime(r)
	switch n := r.Intn(100); {
	case n < 70:
		if got, want := x.Set(id, at), p.set(id, at); got != want {
			t.Fatalf("Set(%q, %d) = %d, want %d", id, at, got, want)
		}
	case n < 85:
		if got, want := x.Stop(id), p.stop(id); got != want {
			t.Fatalf("Stop(%q) = %v", id, got)
		}
	case n == 99 || n > 94 && many < 1000:
		now := uint64(r.Intn(8))
		if r.Intn(4) == 0 {
			now = someTime(r)
		}
		if got, want := x.Due(now), p.due(now); !slices.Equal(got, want) {
			t.Fatalf("Due(%d) = %q, want %q", now, got, want)
		}
	}
	got, ok := x.At(id)
	if want, is := p.at(id); got != want || ok != is {
		t.Fatalf("At(%q) = %d, %v; want %d, %v", id, got, ok, want, is)
	}
	var want plainTimer
	i := p.first()
	if i >= 0 {
		want = (*p)[i]
	}
	if next, when, is := x.Next(); next != want.id || when != want.at || is != (i >= 0) || x.Len() != len(*p) {
		t.Fatalf("Next() = %q, %d, %v, Len() = %d; want %v of %d", next, when, is, x.Len(), want, len(*p))
	}
}

// P7.1 to P7.3: any calls, one behind the other, are answered as the plain way does.
func TestPlain(t *testing.T) {
	r := rand.New(rand.NewSource(1))
	for _, c := range []struct{ rounds, steps, many int }{{2000, 60, 4}, {300, 400, 30}, {4, 12000, 1100}} {
		greatest := 0
		for range c.rounds {
			x, p := timer.New(), plainTimers{}
			for range c.steps {
				checkStep(t, r, x, &p, c.many)
				greatest = max(greatest, len(p))
			}
			if got, want := x.Due(last), p.due(last); !slices.Equal(got, want) || x.Len() != 0 {
				t.Fatalf("Due(last) = %q, want %q", got, want)
			}
		}
		if greatest < min(c.many, 200) {
			t.Errorf("of %d ids at most %d were set at one time", c.many, greatest)
		}
	}
}

// P7.1: with more ids than there is room for, those that are there may be set anew, and the others when one is gone.
func TestPlainFull(t *testing.T) {
	r := rand.New(rand.NewSource(2))
	x, p := timer.New(), plainTimers{}
	for i := range 1024 {
		id := strconv.Itoa(i)
		x.Set(id, uint64(i%7))
		p.set(id, uint64(i%7))
	}
	refused := 0
	for range 5000 {
		id, at := strconv.Itoa(r.Intn(1100)), someTime(r)
		if r.Intn(8) == 0 && x.Stop(id) != p.stop(id) {
			t.Fatalf("Stop(%q)", id)
		}
		got, want := x.Set(id, at), p.set(id, at)
		if got != want || x.Len() != len(p) {
			t.Fatalf("Set(%q, %d) = %d, want %d; Len() = %d", id, at, got, want, x.Len())
		}
		if got == api.ErrFull {
			refused++
		}
	}
	if refused < 100 {
		t.Error("few were refused:", refused)
	}
	if got, want := x.Due(last), p.due(last); !slices.Equal(got, want) {
		t.Errorf("%q, want %q", got, want)
	}
}
