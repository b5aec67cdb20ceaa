package link_test

import (
	"math"
	"slices"
	"strings"
	"testing"

	"noria/api"
	"noria/link"
)

type texts = []string

// room is how many bytes may wait on a way.
const room = 262144

// noWays are ways that there are not.
var noWays = []int{2, -1, 3, -2, 1 << 8, 1<<8 + 1, 1 << 32, 1<<32 + 1, -1 << 32, math.MaxInt, math.MinInt, math.MinInt + 1}

// bothWays are each way, and the other one.
var bothWays = [][2]int{{link.Up, link.Down}, {link.Down, link.Up}}

// xs is a message of that many bytes.
func xs(n int) string { return strings.Repeat("x", n) }

func send(t *testing.T, l *link.Link, way int, s string, want api.Errno) {
	t.Helper()
	if errno := l.Send(way, s); errno != want {
		t.Errorf("Send(%d, %.20q, %d bytes) = %d, want %d", way, s, len(s), errno, want)
	}
}

func inject(t *testing.T, l *link.Link, way int, s string, want api.Errno) {
	t.Helper()
	if errno := l.Inject(way, s); errno != want {
		t.Errorf("Inject(%d, % .20x, %d bytes) = %d, want %d", way, s, len(s), errno, want)
	}
}

func take(t *testing.T, l *link.Link, way, most int, want api.Errno, told ...string) {
	t.Helper()
	got, errno := l.Take(way, most)
	if errno != want || !slices.Equal(got, told) {
		t.Errorf("Take(%d, %d) = %.20q, %d; want %.20q, %d", way, most, got, errno, told, want)
	}
}

// wantWaits holds what waits on each way, and the room for more, against what is to wait there.
func wantWaits(t *testing.T, l *link.Link, up, down int) {
	t.Helper()
	for way, n := range []int{up, down} {
		if got, space := l.Waiting(way), l.Space(way); got != n || space != room-n {
			t.Errorf("on way %d wait %d, with room for %d; want %d, %d", way, got, space, n, room-n)
		}
	}
	for _, way := range noWays {
		if got, space := l.Waiting(way), l.Space(way); got != 0 || space != 0 {
			t.Errorf("on way %d, that there is not, wait %d, with room for %d", way, got, space)
		}
	}
}

func wantEpoch(t *testing.T, l *link.Link, want uint64) {
	t.Helper()
	if got := l.Epoch(); got != want {
		t.Errorf("Epoch() = %d, want %d", got, want)
	}
}

// tick ticks so often, and asks that none of these ticks tells anything.
func tick(t *testing.T, l *link.Link, times int) {
	t.Helper()
	for i := range times {
		if ask, dead := l.Tick(); ask || dead {
			t.Errorf("tick %d of %d: %v, %v", i+1, times, ask, dead)
		}
	}
}

func wantTick(t *testing.T, l *link.Link, ask, dead bool) {
	t.Helper()
	if a, d := l.Tick(); a != ask || d != dead {
		t.Errorf("Tick() = %v, %v; want %v, %v", a, d, ask, dead)
	}
}

// P8.1: the numbers of the chapter.
func TestNumbers(t *testing.T) {
	if link.Up != 0 || link.Down != 1 || link.Room != room || link.Quiet != 8 || link.Silent != 20 {
		t.Error(link.Up, link.Down, link.Room, link.Quiet, link.Silent)
	}
}

// P8.1: a new stream has Epoch 1, and nothing waits on it.
func TestNew(t *testing.T) {
	l := link.New()
	wantEpoch(t, l, 1)
	wantWaits(t, l, 0, 0)
	take(t, l, link.Up, room, api.OK)
	take(t, l, link.Down, math.MaxInt, api.OK)
	wantEpoch(t, l, 1)
	tick(t, l, 7)
	wantTick(t, l, true, false)
	if one, two := link.New(), link.New(); one == two {
		t.Error("not new")
	}
}

// P8.1: what is sent waits behind what waits, packed, on its own way alone.
func TestSend(t *testing.T) {
	for _, w := range bothWays {
		l := link.New()
		here, there := w[0], w[1]
		send(t, l, here, "a", api.OK)
		if l.Waiting(here) != 5 || l.Waiting(there) != 0 || l.Space(here) != room-5 || l.Space(there) != room {
			t.Error(here, l.Waiting(here), l.Waiting(there))
		}
		send(t, l, here, "bc", api.OK)
		send(t, l, there, "z", api.OK)
		send(t, l, here, "\x00", api.OK)
		if l.Waiting(here) != 16 || l.Waiting(there) != 5 || l.Space(here) != room-16 || l.Space(there) != room-5 {
			t.Error(here, l.Waiting(here), l.Waiting(there))
		}
		take(t, l, here, room, api.OK, "a", "bc", "\x00")
		take(t, l, there, room, api.OK, "z")
		wantWaits(t, l, 0, 0)
		take(t, l, here, room, api.OK)
		send(t, l, here, xs(api.MaxFrame), api.OK)
		if l.Waiting(here) != 65540 {
			t.Error(l.Waiting(here))
		}
		take(t, l, here, 65540, api.OK, xs(65536))
		wantEpoch(t, l, 1)
	}
}

// P8.1: a way that there is not, a text without a Pack, no room: told in this order, and nothing has changed.
func TestSendRefuses(t *testing.T) {
	l := link.New()
	send(t, l, link.Up, "a", api.OK)
	send(t, l, link.Down, "bc", api.OK)
	check := func(up, down int) {
		t.Helper()
		for _, way := range noWays {
			for _, s := range []string{"a", "", xs(65536), xs(65537), xs(room + 1)} {
				send(t, l, way, s, api.ErrArg)
			}
		}
		for way := range 2 {
			for _, s := range []string{"", xs(65537), xs(65538), xs(room), xs(room + 1), xs(1 << 24)} {
				send(t, l, way, s, api.ErrLong)
			}
		}
		wantWaits(t, l, up, down)
		wantEpoch(t, l, 1)
	}
	check(5, 6)
	inject(t, l, link.Up, xs(room-5), api.OK)
	inject(t, l, link.Down, xs(room-6), api.OK)
	check(room, room)
	send(t, l, link.Up, "a", api.ErrFull)
	take(t, l, link.Up, 5, api.OK, "a")
	take(t, l, link.Down, 6, api.OK, "bc")
}

// P8.1: what waits is at most Room bytes, the lengths of the messages among them; each way has its own room.
func TestSendFull(t *testing.T) {
	for _, w := range bothWays {
		l := link.New()
		here, there := w[0], w[1]
		for range 3 {
			send(t, l, here, xs(65536), api.OK)
		}
		// Room for 65524 more, 4 of these for a length.
		send(t, l, here, xs(65536), api.ErrFull)
		send(t, l, here, xs(65521), api.ErrFull)
		if l.Space(here) != 65524 || l.Waiting(here) != 3*65540 {
			t.Error(l.Space(here), l.Waiting(here))
		}
		send(t, l, here, xs(65520), api.OK)
		if l.Space(here) != 0 || l.Waiting(here) != room {
			t.Error(l.Space(here), l.Waiting(here))
		}
		send(t, l, here, "a", api.ErrFull)
		send(t, l, there, "a", api.OK)
		take(t, l, here, 4, api.OK)
		send(t, l, here, "a", api.ErrFull)
		take(t, l, here, 1, api.OK)
		send(t, l, here, "ab", api.ErrFull)
		send(t, l, here, "a", api.OK)
		take(t, l, here, room, api.OK, xs(65536), xs(65536), xs(65536), xs(65520), "a")
		take(t, l, there, room, api.OK, "a")
		wantEpoch(t, l, 1)
	}
}

// P8.1: bytes that are injected wait as they are, also none, also more than a message may have.
func TestInject(t *testing.T) {
	for _, w := range bothWays {
		l := link.New()
		here, there := w[0], w[1]
		inject(t, l, here, "", api.OK)
		wantWaits(t, l, 0, 0)
		inject(t, l, here, "\x00\x00\x00", api.OK)
		inject(t, l, here, "\x02a", api.OK)
		inject(t, l, there, "\x00", api.OK)
		if l.Waiting(here) != 5 || l.Waiting(there) != 1 {
			t.Error(l.Waiting(here), l.Waiting(there))
		}
		inject(t, l, here, "b\x00\x00\x00\x01c\x00", api.OK)
		take(t, l, here, room, api.OK, "ab", "c")
		// What is sent stands behind what was begun: here it is what the length ahead of it says.
		inject(t, l, here, "\x00\x00\x05", api.OK)
		send(t, l, here, "d", api.OK)
		take(t, l, here, room, api.OK, "\x00\x00\x00\x01d")
		inject(t, l, here, xs(65537), api.OK)
		if l.Waiting(here) != 65537 {
			t.Error(l.Waiting(here))
		}
	}
}

// P8.1: bytes that are injected are refused like what is sent.
func TestInjectRefuses(t *testing.T) {
	l := link.New()
	inject(t, l, link.Up, xs(room+1), api.ErrFull)
	inject(t, l, link.Down, xs(1<<24), api.ErrFull)
	wantWaits(t, l, 0, 0)
	inject(t, l, link.Up, xs(room), api.OK)
	inject(t, l, link.Down, xs(room-1), api.OK)
	wantWaits(t, l, room, room-1)
	for _, way := range noWays {
		for _, s := range []string{"", "a", xs(room), xs(room + 1)} {
			inject(t, l, way, s, api.ErrArg)
		}
	}
	inject(t, l, link.Up, "a", api.ErrFull)
	inject(t, l, link.Up, "", api.OK)
	inject(t, l, link.Down, "ab", api.ErrFull)
	wantWaits(t, l, room, room-1)
	inject(t, l, link.Down, "a", api.OK)
	inject(t, l, link.Down, "a", api.ErrFull)
	inject(t, l, link.Down, "", api.OK)
	wantWaits(t, l, room, room)
	wantEpoch(t, l, 1)
}

// P8.2: at most so many of the bytes that wait are read, the first of them, of that way.
func TestTake(t *testing.T) {
	for _, w := range bothWays {
		l := link.New()
		here, there := w[0], w[1]
		for _, s := range []string{"a", "bcd", "e", "f"} {
			send(t, l, here, s, api.OK)
		}
		send(t, l, there, "z", api.OK)
		for _, c := range []struct {
			most, left int
			told       texts
		}{
			{0, 22, nil},
			{4, 18, nil},
			{0, 18, nil},
			{1, 17, texts{"a"}},
			{6, 11, nil},
			{1, 10, texts{"bcd"}},
			{9, 1, texts{"e"}},
			{0, 1, nil},
			{2, 0, texts{"f"}},
			{2, 0, nil},
			{0, 0, nil},
		} {
			take(t, l, here, c.most, api.OK, c.told...)
			if l.Waiting(here) != c.left || l.Space(here) != room-c.left || l.Waiting(there) != 5 {
				t.Errorf("%d: %d left, not %d; %d the other way", c.most, l.Waiting(here), c.left, l.Waiting(there))
			}
		}
		take(t, l, there, math.MaxInt, api.OK, "z")
		send(t, l, here, "g", api.OK)
		take(t, l, here, 5, api.OK, "g")
		wantEpoch(t, l, 1)
	}
}

// P8.2: a way that there is not, or less than no bytes: ErrArg, and nothing has changed.
func TestTakeRefuses(t *testing.T) {
	l := link.New()
	send(t, l, link.Up, "ab", api.OK)
	send(t, l, link.Down, "cd", api.OK)
	take(t, l, link.Up, 3, api.OK)
	take(t, l, link.Down, 5, api.OK)
	tick(t, l, 7)
	for _, most := range []int{-1, -2, -1 << 31, -1 << 32, math.MinInt, math.MinInt + 1} {
		take(t, l, link.Up, most, api.ErrArg)
		take(t, l, link.Down, most, api.ErrArg)
	}
	for _, way := range noWays {
		for _, most := range []int{-1, 0, 1, 5, room, math.MaxInt, math.MinInt} {
			take(t, l, way, most, api.ErrArg)
		}
	}
	wantWaits(t, l, 3, 1)
	wantEpoch(t, l, 1)
	wantTick(t, l, true, false)
	take(t, l, link.Up, 3, api.OK, "ab")
	take(t, l, link.Down, 1, api.OK, "cd")
}

// badHeads are lengths that no message has, each with its error.
var badHeads = map[string]api.Errno{
	"\x00\x00\x00\x00": api.ErrForm,
	"\x00\x01\x00\x01": api.ErrLong,
	"\xff\xff\xff\xff": api.ErrLong,
}

// P8.2: an error of the bytes is told with the messages ahead of it, as soon as its length is whole.
func TestTakeTellsErrors(t *testing.T) {
	for head, errno := range badHeads {
		for way := range 2 {
			for most, want := range map[int]texts{4 + 5 + 6: {"a", "bc"}, room: {"a", "bc"}, math.MaxInt: {"a", "bc"}} {
				l := link.New()
				send(t, l, way, "a", api.OK)
				send(t, l, way, "bc", api.OK)
				inject(t, l, way, head, api.OK)
				send(t, l, way, "d", api.OK)
				take(t, l, way, most, errno, want...)
				wantEpoch(t, l, 2)
			}
			l := link.New()
			send(t, l, way, "a", api.OK)
			inject(t, l, way, head+"\x00", api.OK)
			take(t, l, way, 5+3, api.OK, "a")
			wantEpoch(t, l, 1)
			take(t, l, way, 0, api.OK)
			take(t, l, way, 1, errno)
			wantEpoch(t, l, 2)
			take(t, l, way, room, api.OK)
			wantEpoch(t, l, 2)
		}
	}
}

// P8.2: with an error of the bytes the stream is Reset, both ways of it.
func TestTakeResets(t *testing.T) {
	for head, errno := range badHeads {
		for _, w := range bothWays {
			l := link.New()
			here, there := w[0], w[1]
			for epoch := uint64(1); epoch < 4; epoch++ {
				wantEpoch(t, l, epoch)
				send(t, l, there, "zzz", api.OK)
				take(t, l, there, 5, api.OK)
				inject(t, l, here, head, api.OK)
				send(t, l, here, "d", api.OK)
				tick(t, l, 7)
				take(t, l, here, 4, errno)
				wantEpoch(t, l, epoch+1)
				wantWaits(t, l, 0, 0)
				tick(t, l, 7)
				wantTick(t, l, true, false)
				// Both readers are new: the one is not bad, the other ends nothing that was begun.
				send(t, l, here, "e", api.OK)
				take(t, l, here, room, api.OK, "e")
				send(t, l, there, "y", api.OK)
				take(t, l, there, room, api.OK, "y")
				l.Heard()
			}
		}
	}
}

// P8.3: who hears nothing asks when it is quiet, and each 4 ticks again; when it is silent, it is dead, and stays so.
func TestTick(t *testing.T) {
	for name, begin := range map[string]func(*link.Link){
		"new": func(l *link.Link) {},
		"heard": func(l *link.Link) {
			for range 30 {
				l.Tick()
			}
			l.Heard()
		},
		"heard, again": func(l *link.Link) {
			for n := range 30 {
				for range n {
					l.Tick()
				}
				l.Heard()
			}
		},
		"reset": func(l *link.Link) {
			for range 19 {
				l.Tick()
			}
			l.Reset()
		},
		"broken": func(l *link.Link) {
			for range 9 {
				l.Tick()
			}
			l.Inject(link.Down, "\x00\x00\x00\x00")
			l.Take(link.Down, 4)
		},
	} {
		l := link.New()
		begin(l)
		for n := 1; n <= 100; n++ {
			ask, dead := l.Tick()
			if ask != (n == 8 || n == 12 || n == 16) || dead != (n >= 20) {
				t.Errorf("%s: tick %d: %v, %v", name, n, ask, dead)
			}
		}
	}
}

// P8.3: what is sent, injected, taken, or asked is no word: ticks count on.
func TestTicksCountOn(t *testing.T) {
	l := link.New()
	for n := 1; n <= 25; n++ {
		for way := range 2 {
			l.Send(way, "a")
			l.Send(way, "")
			l.Inject(way, "\x00\x00\x00\x01b")
			l.Take(way, 7)
			l.Take(way, -1)
			l.Waiting(way)
			l.Space(way)
		}
		l.Epoch()
		ask, dead := l.Tick()
		if ask != (n == 8 || n == 12 || n == 16) || dead != (n >= 20) {
			t.Errorf("tick %d: %v, %v", n, ask, dead)
		}
	}
	wantEpoch(t, l, 1)
}

// P8.3: Heard leaves what waits, and the epoch; who was dead is so no more.
func TestHeard(t *testing.T) {
	l := link.New()
	send(t, l, link.Up, "ab", api.OK)
	send(t, l, link.Down, "c", api.OK)
	take(t, l, link.Up, 5, api.OK)
	for range 21 {
		l.Tick()
	}
	wantTick(t, l, false, true)
	l.Heard()
	wantWaits(t, l, 1, 5)
	wantEpoch(t, l, 1)
	tick(t, l, 7)
	wantTick(t, l, true, false)
	l.Heard()
	l.Heard()
	tick(t, l, 7)
	take(t, l, link.Up, 1, api.OK, "ab")
	take(t, l, link.Down, 5, api.OK, "c")
}

// P8.3, P8.4: Reset is a new epoch: nothing that waited, or was read by half, is there any more.
func TestReset(t *testing.T) {
	l := link.New()
	for epoch := uint64(1); epoch < 10; epoch++ {
		wantEpoch(t, l, epoch)
		wantWaits(t, l, 0, 0)
		for way := range 2 {
			send(t, l, way, "old", api.OK)
			take(t, l, way, 5, api.OK)
			send(t, l, way, "older", api.OK)
		}
		wantWaits(t, l, 2+9, 2+9)
		tick(t, l, 7)
		l.Reset()
		wantEpoch(t, l, epoch+1)
		wantWaits(t, l, 0, 0)
		tick(t, l, 7)
		for way := range 2 {
			take(t, l, way, room, api.OK)
			send(t, l, way, "new", api.OK)
			take(t, l, way, room, api.OK, "new")
		}
		wantTick(t, l, true, false)
		l.Heard()
	}
	other := link.New()
	other.Reset()
	other.Reset()
	wantEpoch(t, other, 3)
	wantEpoch(t, l, 10)
}
