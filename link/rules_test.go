package link_test

import (
	"math"
	"runtime"
	"slices"
	"strings"
	"testing"
	"unsafe"

	"noria/api"
	"noria/link"
)

// stands tells whether a text stands where another one does.
func stands(x, s string) bool {
	from, at := uintptr(unsafe.Pointer(unsafe.StringData(s))), uintptr(unsafe.Pointer(unsafe.StringData(x)))
	return at >= from && at < from+uintptr(len(s))
}

// P3: what is taken does not stand in what was sent, or injected.
func TestTextsAreNotKept(t *testing.T) {
	s, b := strings.Clone("a message"), strings.Clone("\x00\x00\x00\x05other")
	l := link.New()
	send(t, l, link.Up, s, api.OK)
	inject(t, l, link.Up, b, api.OK)
	got, _ := l.Take(link.Up, room)
	if !slices.Equal(got, texts{"a message", "other"}) {
		t.Fatal(got)
	}
	for _, x := range got {
		if stands(x, s) || stands(x, b) {
			t.Errorf("%q is kept", x)
		}
	}
}

// P3: messages that were told stay, whatever is sent and taken behind them.
func TestMessagesStay(t *testing.T) {
	l := link.New()
	var all texts
	for i := range 200 {
		m := strings.Repeat(string([]byte{byte(i)}), 1+i%7*40)
		send(t, l, link.Up, m, api.OK)
		for _, most := range []int{2, 1 + len(m)/2, len(m) + 4} {
			told, _ := l.Take(link.Up, most)
			all = append(all, told...)
		}
	}
	if len(all) != 200 {
		t.Fatal(len(all))
	}
	for i, m := range all {
		if m != strings.Repeat(string([]byte{byte(i)}), 1+i%7*40) {
			t.Errorf("message %d became %.20q", i, m)
		}
	}
}

// P3: a list that is told is new, with its spare room: what is written there is seen nowhere else.
func TestListsAreNew(t *testing.T) {
	l, other := link.New(), link.New()
	for _, s := range []string{"a", "b", "c", "d", "e"} {
		for _, x := range []*link.Link{l, other} {
			send(t, x, link.Up, s, api.OK)
			send(t, x, link.Down, s, api.OK)
		}
	}
	one, _ := l.Take(link.Up, 15)
	fill(one)
	take(t, l, link.Down, 15, api.OK, "a", "b", "c")
	two, _ := l.Take(link.Up, 10)
	fill(one)
	if !slices.Equal(two, texts{"d", "e"}) {
		t.Error(two)
	}
	fill(two)
	take(t, l, link.Down, 10, api.OK, "d", "e")
	take(t, other, link.Up, 25, api.OK, "a", "b", "c", "d", "e")
	inject(t, l, link.Up, "\x00\x00\x00\x01f\x00\x00\x00\x00", api.OK)
	one, errno := l.Take(link.Up, room)
	if !slices.Equal(one, texts{"f"}) || errno != api.ErrForm {
		t.Error(one, errno)
	}
	fill(one)
	send(t, l, link.Up, "g", api.OK)
	take(t, l, link.Up, room, api.OK, "g")
}

// fill writes over a list, with its spare room.
func fill(l texts) {
	l = l[:cap(l)]
	for i := range l {
		l[i] = "scribbled"
	}
}

// P1, P6: at all arguments there is an answer, also at numbers that are near the ends.
func TestEveryCallEnds(t *testing.T) {
	numbers := append([]int{0, 1, 5, 1<<31 - 1, 1 << 31, math.MaxInt - 1, -1 << 31}, noWays...)
	for b := range 256 {
		one := string([]byte{byte(b)})
		l := link.New()
		for _, n := range []int{0, 1, 2, 3, 4, 5, 300, 65536, 65537, room, room + 1} {
			s := strings.Repeat(one, n)
			for way := range 2 {
				if errno := l.Send(way, s); errno == api.OK && (n == 0 || n > api.MaxFrame) {
					t.Errorf("Send(%d, %d bytes) = OK", way, n)
				}
				l.Inject(way, s)
			}
			for _, way := range numbers {
				for _, most := range numbers {
					told, errno := l.Take(way, most)
					if is := way == 0 || way == 1; (errno == api.ErrArg) != (!is || most < 0) || !is && len(told) > 0 {
						t.Errorf("Take(%d, %d) = %d told, %d", way, most, len(told), errno)
					}
				}
			}
		}
		if l.Waiting(link.Up)+l.Waiting(link.Down) > 0 {
			t.Errorf("bytes %x wait, when all were taken", b)
		}
	}
}

// P3: of the ticks no more is counted than is to be told: who is dead for long stays so, and hears anew.
func TestManyTicks(t *testing.T) {
	l := link.New()
	for range 1 << 20 {
		l.Tick()
	}
	wantTick(t, l, false, true)
	l.Heard()
	tick(t, l, 7)
	wantTick(t, l, true, false)
}

// tell is what a stream answers to calls that are always the same.
func tell() (all texts) {
	l := link.New()
	for i := range 600 {
		way := i % 2
		l.Send(way, xs(1+i*i%900))
		if i%150 == 149 {
			l.Inject(way, "\x00\x00\x00\x00")
		}
		told, errno := l.Take(1-way, i*37%1000)
		all = append(all, told...)
		if errno != api.OK {
			all = append(all, "end")
		}
		if ask, dead := l.Tick(); ask || dead {
			all = append(all, "tick")
		}
		if i%33 == 0 {
			l.Heard()
		}
	}
	return all
}

// P4: the same calls are answered the same; streams don't meet one another, one behind the other or at one time.
func TestSameAnswers(t *testing.T) {
	want := tell()
	if len(want) < 300 || !slices.Contains(want, "end") || !slices.Contains(want, "tick") {
		t.Fatal(len(want))
	}
	done := make(chan bool)
	for range 8 {
		go func() {
			same := true
			for range 50 {
				same = same && slices.Equal(tell(), want)
			}
			done <- same
		}()
	}
	for range 8 {
		if !<-done {
			t.Error("another answer")
		}
	}
}

// What small pieces cost grows as they do, not as their square, be they sent, or taken.
func TestSmallPiecesCostLittle(t *testing.T) {
	var before, after runtime.MemStats
	runtime.ReadMemStats(&before)
	l := link.New()
	for range room / 5 {
		send(t, l, link.Up, "a", api.OK)
	}
	told := 0
	for l.Waiting(link.Up) > 0 {
		got, _ := l.Take(link.Up, 1)
		told += len(got)
	}
	runtime.ReadMemStats(&after)
	if told != room/5 {
		t.Error(told)
	}
	if n := after.TotalAlloc - before.TotalAlloc; n > 1<<25 {
		t.Errorf("%d bytes were asked for", n)
	}
}

// Of a stream that is nearly full all the time, too, small pieces cost little.
func TestFullStreamsCostLittle(t *testing.T) {
	l := link.New()
	inject(t, l, link.Up, strings.Repeat("\x00\x00\x00\x01a", room/5), api.OK)
	var before, after runtime.MemStats
	runtime.ReadMemStats(&before)
	for range 50000 {
		take(t, l, link.Up, 5, api.OK, "a")
		send(t, l, link.Up, "a", api.OK)
	}
	runtime.ReadMemStats(&after)
	if n := after.TotalAlloc - before.TotalAlloc; n > 1<<25 {
		t.Errorf("%d bytes were asked for", n)
	}
}

// No more is kept than what waits, however much did: many streams on which a few bytes wait take little room.
func TestLittleIsKept(t *testing.T) {
	for name, end := range map[string]func(*link.Link){
		"all taken":  func(l *link.Link) { l.Take(link.Up, room) },
		"few wait":   func(l *link.Link) { l.Take(link.Up, room-5) },
		"bit by bit": func(l *link.Link) { takeBitByBit(l) },
		"reset":      func(l *link.Link) { l.Reset() },
		"broken": func(l *link.Link) {
			l.Inject(link.Down, "\x00\x00\x00\x00")
			l.Take(link.Down, 4)
		},
	} {
		links := make([]*link.Link, 40)
		before := inUse()
		for i := range links {
			links[i] = link.New()
			inject(t, links[i], link.Up, strings.Repeat("\x00\x00\x00\x01a", room/5), api.OK)
			end(links[i])
		}
		if after := inUse(); after > before+1<<20 {
			t.Errorf("%s: %d bytes are kept", name, after-before)
		}
		runtime.KeepAlive(links)
	}
}

// takeBitByBit takes small pieces, until few bytes wait.
func takeBitByBit(l *link.Link) {
	for l.Waiting(link.Up) > 1000 {
		l.Take(link.Up, 777)
	}
}

// inUse is how many bytes are in use.
func inUse() uint64 {
	var m runtime.MemStats
	runtime.GC()
	runtime.ReadMemStats(&m)
	return m.HeapAlloc
}
