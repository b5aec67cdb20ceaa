package link_test

import (
	"encoding/binary"
	"math"
	"math/bits"
	"math/rand"
	"slices"
	"strings"
	"testing"

	"noria/api"
	"noria/link"
)

// plainWay is what waits one way, what was read of it in this epoch, and how many messages were told of that.
type plainWay struct {
	waits, read string
	told        int
}

// plainLink is the chapter's.
type plainLink struct {
	ways  [2]plainWay
	epoch uint64
	ticks int
}

func newPlain() *plainLink { return &plainLink{epoch: 1} }

func (p *plainLink) reset() { *p = plainLink{epoch: p.epoch + 1} }

func (p *plainLink) put(way int, s string) api.Errno {
	if len(p.ways[way].waits)+len(s) > 262144 {
		return api.ErrFull
	}
	p.ways[way].waits += s
	return api.OK
}

func (p *plainLink) send(way int, s string) api.Errno {
	if way != 0 && way != 1 {
		return api.ErrArg
	}
	if s == "" || len(s) > 65536 {
		return api.ErrLong
	}
	return p.put(way, string(binary.BigEndian.AppendUint32(nil, uint32(len(s))))+s)
}

func (p *plainLink) inject(way int, s string) api.Errno {
	if way != 0 && way != 1 {
		return api.ErrArg
	}
	return p.put(way, s)
}

func (p *plainLink) take(way, most int) (texts, api.Errno) {
	if way != 0 && way != 1 || most < 0 {
		return nil, api.ErrArg
	}
	w := &p.ways[way]
	n := min(most, len(w.waits))
	w.read, w.waits = w.read+w.waits[:n], w.waits[n:]
	all, errno := plainMessages(w.read)
	before := w.told
	w.told = len(all)
	if errno != api.OK {
		p.reset()
	}
	return all[before:], errno
}

// plainMessages are all messages of a stream, and what ends it.
func plainMessages(s string) (l texts, errno api.Errno) {
	for len(s) >= 4 {
		n := binary.BigEndian.Uint32([]byte(s))
		if n == 0 {
			return l, api.ErrForm
		}
		if n > 65536 {
			return l, api.ErrLong
		}
		if len(s) < 4+int(n) {
			break
		}
		l, s = append(l, s[4:4+n]), s[4+n:]
	}
	return l, api.OK
}

func (p *plainLink) tick() (ask, dead bool) {
	p.ticks++
	for n := 8; n < 20; n += 4 {
		ask = ask || p.ticks == n
	}
	return ask, p.ticks >= 20
}

// someBytes are any bytes, of so many kinds that random chance makes lengths of them.
func someBytes(r *rand.Rand, n int) string {
	const bytes = "\x00\x00\x00\x00\x00\x00\x00\x01\x01\x02\x03ab\xff"
	var b strings.Builder
	for range n {
		b.WriteByte(bytes[r.Intn(len(bytes))])
	}
	return b.String()
}

// someSize is a size up to most, mostly a small one.
func someSize(r *rand.Rand, most int) int { return r.Intn(1 + most>>r.Intn(bits.Len(uint(most)))) }

// someWay is mostly one that there is.
func someWay(r *rand.Rand) int {
	if r.Intn(30) == 0 {
		return noWays[r.Intn(len(noWays))]
	}
	return r.Intn(2)
}

// tally is how often what came about.
type tally struct{ told, full, long, form, dead int }

// mix is how great messages and pieces are, and how many of 100 steps send, inject any bytes, and take.
type mix struct{ great, send, inject, take int }

// step does one thing to both, and holds what is answered against each other.
func step(t *testing.T, r *rand.Rand, l *link.Link, p *plainLink, m mix, c *tally) {
	t.Helper()
	way := someWay(r)
	switch n := r.Intn(100); {
	case n < m.send:
		s := someBytes(r, someSize(r, m.great))
		got, want := l.Send(way, s), p.send(way, s)
		if got != want {
			t.Fatalf("Send(%d, %d bytes) = %d, want %d", way, len(s), got, want)
		}
		if got == api.ErrFull {
			c.full++
		}
	case n < m.send+m.inject:
		s := someBytes(r, r.Intn(9))
		if got, want := l.Inject(way, s), p.inject(way, s); got != want {
			t.Fatalf("Inject(%d, % x) = %d, want %d", way, s, got, want)
		}
	case n < m.send+m.inject+m.take:
		stepTake(t, l, p, way, someSize(r, m.great)-r.Intn(2), c)
	case n < 98:
		ask, dead := l.Tick()
		if a, d := p.tick(); ask != a || dead != d {
			t.Fatalf("Tick() = %v, %v at tick %d", ask, dead, p.ticks)
		}
		if dead {
			c.dead++
		}
	case n < 99:
		l.Heard()
		p.ticks = 0
	case r.Intn(20) == 0:
		l.Reset()
		p.reset()
	}
	wantWaits(t, l, len(p.ways[0].waits), len(p.ways[1].waits))
	wantEpoch(t, l, p.epoch)
}

// stepTake takes of both.
func stepTake(t *testing.T, l *link.Link, p *plainLink, way, most int, c *tally) {
	t.Helper()
	got, errno := l.Take(way, most)
	want, is := p.take(way, most)
	if errno != is || !slices.Equal(got, want) {
		t.Fatalf("Take(%d, %d) = %.20q, %d; want %.20q, %d", way, most, got, errno, want, is)
	}
	c.told += len(got)
	switch errno {
	case api.ErrForm:
		c.form++
	case api.ErrLong:
		c.long++
	}
}

// manySteps goes through that many streams, each by that many steps.
func manySteps(t *testing.T, streams, steps int, m mix) (c tally) {
	t.Helper()
	r := rand.New(rand.NewSource(1))
	for range streams {
		l, p := link.New(), newPlain()
		for range steps {
			step(t, r, l, p, m, &c)
		}
	}
	return c
}

// P8.1 to P8.4: any calls, one behind the other, are answered as the plain way does, whatever bytes come.
func TestPlain(t *testing.T) {
	if c := manySteps(t, 3000, 150, mix{great: 12, send: 30, inject: 4, take: 40}); c.told < 10000 || c.form < 300 || c.long < 1000 || c.dead < 1000 {
		t.Errorf("%+v", c)
	}
}

// P8.1 to P8.4: so too, where great messages come faster than they are taken.
func TestPlainGreat(t *testing.T) {
	if c := manySteps(t, 6, 400, mix{great: 80000, send: 50, take: 20}); c.told < 200 || c.full < 10 || c.dead < 100 {
		t.Errorf("%+v", c)
	}
}

// someMessages are some messages, small ones and great ones, that have room at one time.
func someMessages(r *rand.Rand) (l texts) {
	for space := room; len(l) < 30; {
		s := someBytes(r, 1+someSize(r, api.MaxFrame-1))
		space -= 4 + len(s)
		if space < 0 {
			return l
		}
		l = append(l, s)
	}
	return l
}

// P8.4: what was sent is taken, each once, in order, on its own way, however it is cut.
func TestEveryCut(t *testing.T) {
	r := rand.New(rand.NewSource(2))
	for range 300 {
		l := link.New()
		var want, got [2]texts
		for way := range 2 {
			want[way] = someMessages(r)
			for _, s := range want[way] {
				send(t, l, way, s, api.OK)
			}
		}
		for l.Waiting(link.Up)+l.Waiting(link.Down) > 0 {
			way := r.Intn(2)
			told, errno := l.Take(way, r.Intn(1+someSize(r, room)))
			if errno != api.OK {
				t.Fatal(errno)
			}
			got[way] = append(got[way], told...)
		}
		for way := range 2 {
			if !slices.Equal(got[way], want[way]) {
				t.Fatalf("%d messages for %d", len(got[way]), len(want[way]))
			}
		}
	}
}

// P8.4: what is sent while others are taken is taken behind them, whatever the pieces are.
func TestEverySize(t *testing.T) {
	want := texts{"a", "bc", xs(300), "d", xs(5000), "\x00\x00\x00\x00", "e"}
	for size := 1; size < 400; size++ {
		l := link.New()
		var got texts
		for _, s := range want {
			send(t, l, link.Down, s, api.OK)
			told, _ := l.Take(link.Down, size)
			got = append(got, told...)
		}
		for l.Waiting(link.Down) > 0 {
			told, errno := l.Take(link.Down, size)
			if errno != api.OK {
				t.Fatal(size, errno)
			}
			got = append(got, told...)
		}
		if !slices.Equal(got, want) {
			t.Fatalf("by %d: %.20q", size, got)
		}
	}
}

// P8.4: of an older epoch nothing is taken, be it cut off by Reset, or by bytes that are none, wherever it was cut.
func TestEpochs(t *testing.T) {
	old := "\x00\x00\x00\x03old\x00\x00\x00\x05older"
	for at := range len(old) {
		for name, begin := range map[string]func(*link.Link){
			"reset": func(l *link.Link) { l.Reset() },
			"up": func(l *link.Link) {
				l.Inject(link.Up, "\x00\x00\x00\x00")
				l.Take(link.Up, math.MaxInt)
			},
			"down": func(l *link.Link) {
				l.Inject(link.Down, "\xff\xff\xff\xff")
				l.Take(link.Down, math.MaxInt)
			},
		} {
			l := link.New()
			for way := range 2 {
				inject(t, l, way, old[:at], api.OK)
				l.Take(way, room)
				inject(t, l, way, old[at:], api.OK)
			}
			begin(l)
			wantEpoch(t, l, 2)
			for way := range 2 {
				if l.Waiting(way) != 0 {
					t.Errorf("%s, %d: %d wait", name, at, l.Waiting(way))
				}
				send(t, l, way, "new", api.OK)
				send(t, l, way, "newer", api.OK)
				take(t, l, way, room, api.OK, "new", "newer")
			}
		}
	}
}
