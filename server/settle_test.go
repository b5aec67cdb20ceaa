package server_test

import (
	"maps"
	"math/rand"
	"slices"
	"testing"

	"noria/api"
	"noria/client"
	"noria/names"
)

// world is what there is of type 1, a Server that tells it, a Client that asks for it, and what both have said, and the other one has not heard.
type world struct {
	t     *testing.T
	r     *rand.Rand
	s     srv
	c     client.Client
	there map[string]api.Resource
	table map[string]api.Resource
	seq   uint64
	all   texts
	up    []req
	down  []resp
	// calm: of Delta who wants all, or did, asks only once it has settled. Else it may keep what is gone: of a name that was asked for anew, and then is wanted as one of all alone, the Server does not know that it was sent.
	calm bool
}

func newWorld(t *testing.T, r *rand.Rand, delta bool, n int) *world {
	return &world{t: t, r: r, c: client.New(delta), there: map[string]api.Resource{}, table: map[string]api.Resource{}, all: some(n)}
}

// list is what there is, in any order, with what counts for nothing.
func (w *world) list() list {
	l := slices.Collect(maps.Values(w.there))
	slices.SortFunc(l, func(a, b api.Resource) int { return int(a.Seq) - int(b.Seq) })
	w.r.Shuffle(len(l), func(i, j int) { l[i], l[j] = l[j], l[i] })
	return append(l, of(2, w.all[0], 9), of(1, "*", 1))
}

func (w *world) someName() string { return w.all[w.r.Intn(len(w.all))] }

// turn turns what there is.
func (w *world) turn() {
	name := w.someName()
	if w.r.Intn(3) == 0 {
		delete(w.there, name)
		return
	}
	w.seq++
	w.there[name] = of(1, name, w.seq)
}

// ask asks for something else; what is not wanted any more is not kept.
func (w *world) ask() {
	var l texts
	for range w.r.Intn(8) {
		l = append(l, w.someName())
	}
	if w.r.Intn(4) == 0 {
		l = append(l, "*")
	}
	if w.r.Intn(8) == 0 {
		l = append(l, w.all[:min(len(w.all), 50)]...)
	}
	want := set(l...)
	if w.calm && (want.All || w.c.Topics[1].Want.All) {
		w.settle()
	}
	w.askFor(want)
}

func (w *world) askFor(want names.Set) {
	h := w.had()
	c, q, errno := w.c.Ask(1, want, h[:min(len(h), api.MaxNames)])
	if errno == api.ErrNone {
		return
	}
	if errno != api.OK {
		w.t.Fatal(errno)
	}
	w.c, w.up = c, append(w.up, q)
	maps.DeleteFunc(w.table, func(name string, _ api.Resource) bool { return !want.Has(name) })
}

// had is what the Client has.
func (w *world) had() haves { return sentOf(slices.Collect(maps.Values(w.table))) }

// rise lets the Server hear the first that it was asked.
func (w *world) rise() {
	if len(w.up) == 0 {
		return
	}
	s, _, errno := w.s.Take(w.up[0])
	if errno != api.OK && errno != api.ErrStale {
		w.t.Fatalf("Take(%s) = %d", short(w.up[0]), errno)
	}
	w.s, w.up = s, w.up[1:]
}

// fall lets the Client hear the first that it was told, and answer it.
func (w *world) fall() {
	if len(w.down) == 0 {
		return
	}
	a := w.down[0]
	w.down = w.down[1:]
	c, errno := w.c.Take(a)
	if errno != api.OK {
		w.t.Fatalf("the Client's Take(%s) = %d", short(a), errno)
	}
	if !a.Delta {
		clear(w.table)
	}
	for _, x := range client.Has(c, a) {
		w.table[x.Name] = x
	}
	for _, name := range a.Removed {
		delete(w.table, name)
	}
	q, _ := c.Answer(1, [2]string{"", "why"}[w.r.Intn(2)])
	w.c, w.up = c, append(w.up, q)
}

// tell tells what there is to tell, if there is.
func (w *world) tell(known names.Set) bool {
	s, a, ok := w.s.Next(1, w.list(), known)
	if ok {
		w.s, w.down = s, append(w.down, a)
	}
	return ok
}

// settle lets all that is said be heard, till nothing more is told.
func (w *world) settle() {
	for n := 0; len(w.up)+len(w.down) > 0 || w.tell(everything); n++ {
		w.rise()
		w.fall()
		if n > 1000 {
			w.t.Fatal("it does not settle")
		}
	}
}

// hold holds what was sent, and what the Client has, against what is held.
func (w *world) hold() {
	w.t.Helper()
	held := map[string]api.Resource{}
	for name, x := range w.there {
		if w.c.Topics[1].Want.Has(name) {
			held[name] = x
		}
	}
	want := sentOf(slices.Collect(maps.Values(held)))
	x := w.s.Topics[1]
	sent := slices.DeleteFunc(slices.Clone(x.Sent), func(h have) bool { return h.Seq == 0 })
	if x.Open != 0 || !slices.Equal(sent, want) {
		w.t.Fatalf("sent is %v, held is %v", x.Sent, want)
	}
	if w.c.Delta && !w.calm {
		return
	}
	if !slices.Equal(w.had(), want) || !names.Same(x.Want, w.c.Topics[1].Want) {
		w.t.Fatalf("the Client has %v, and wants %v; held is %v", w.table, w.c.Topics[1].Want, want)
	}
}

// P11.3: when nothing is open, and nothing more comes, what was sent is what is held; whatever turned meanwhile, and whatever was known. Who asked has just that.
func TestSettles(t *testing.T) {
	r := rand.New(rand.NewSource(3))
	for i := range 400 {
		delta := i%2 == 0
		n := 1 + r.Intn(40)
		if delta {
			n += r.Intn(100)
		}
		w := newWorld(t, r, delta, n)
		w.calm = delta && i%4 == 0
		for range 2 {
			for range r.Intn(200) {
				switch r.Intn(6) {
				case 0:
					w.ask()
				case 1, 2:
					w.turn()
				case 3:
					w.rise()
				case 4:
					w.fall()
				case 5:
					w.tell(oneOf(r, everything, set(w.all...), everything, set(w.all[:len(w.all)/2]...), set()))
				}
			}
			w.settle()
			if w.c.Topics[1].Open {
				w.hold()
			}
		}
	}
}

// P11.3: nothing is told twice: once it has settled, each that turns is told once, as often as it is asked for what is to be told.
func TestTellsOnce(t *testing.T) {
	r := rand.New(rand.NewSource(4))
	w := newWorld(t, r, true, 60)
	w.calm = true
	w.askFor(set("*"))
	told := 0
	for range 300 {
		w.turn()
		w.settle()
		w.hold()
		if w.tell(everything) {
			t.Fatal("told once more")
		}
		told++
	}
	if last := w.s.Topics[1].Last; last > uint64(told)+1 {
		t.Errorf("%d were sent of %d", last, told)
	}
}
