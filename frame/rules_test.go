package frame_test

import (
	"runtime"
	"slices"
	"strings"
	"testing"
	"unsafe"

	"noria/api"
	"noria/frame"
)

// stands tells whether a text stands where another one does.
func stands(x, s string) bool {
	from, at := uintptr(unsafe.Pointer(unsafe.StringData(s))), uintptr(unsafe.Pointer(unsafe.StringData(x)))
	return at >= from && at < from+uintptr(len(s))
}

// P3: what is told does not keep the chunks it came in, nor does a Pack keep what was packed.
func TestTextsAreNotKept(t *testing.T) {
	s := strings.Clone("\x00\x00\x00\x03abc\x00\x00\x00\x03def\x00\x00\x00\x03g")
	r := frame.New()
	l, _ := r.Feed(s)
	more, _ := r.Feed("hi")
	l = append(l, more...)
	if !slices.Equal(l, texts{"abc", "def", "ghi"}) {
		t.Fatal(l)
	}
	for _, x := range l {
		if stands(x, s) {
			t.Errorf("%q stands in the chunk", x)
		}
	}
	m := strings.Clone("message")
	if p, _ := frame.Pack(m); stands(m, p) || stands(p, m) {
		t.Error("a Pack keeps what was packed")
	}
}

// P3: messages that were told stay, whatever is fed behind them: the reader writes where they don't stand.
func TestMessagesStay(t *testing.T) {
	r := frame.New()
	var all texts
	for i := range 200 {
		m := strings.Repeat(string([]byte{byte(i)}), 1+i%7*40)
		p, _ := frame.Pack(m)
		for _, c := range cut(p, []int{2, len(p) / 2}) {
			l, _ := r.Feed(c)
			all = append(all, l...)
		}
	}
	if len(all) != 200 {
		t.Fatal(len(all))
	}
	for i, m := range all {
		if m != strings.Repeat(string([]byte{byte(i)}), 1+i%7*40) {
			t.Errorf("message %d became %.20q", i, m)
		}
	}
}

// P3: a list that is told is new, with its spare room: what is written there is seen nowhere else.
func TestListsAreNew(t *testing.T) {
	const s = "\x00\x00\x00\x01a\x00\x00\x00\x01b\x00\x00\x00\x01c\x00\x00\x00\x01"
	r, other := frame.New(), frame.New()
	one, _ := r.Feed(s)
	beside, _ := other.Feed(s)
	fill(one)
	two, _ := r.Feed("d")
	if !slices.Equal(two, texts{"d"}) || !slices.Equal(beside, texts{"a", "b", "c"}) {
		t.Error(two, beside)
	}
	fill(two)
	one, errno := r.Feed(s + "e\x00\x00\x00\x00")
	if !slices.Equal(one, texts{"a", "b", "c", "e"}) || errno != api.ErrForm {
		t.Error(one, errno)
	}
	fill(one)
	if one, errno = r.Feed(s); len(one) != 0 || errno != api.ErrForm {
		t.Error(one, errno)
	}
}

// fill writes over a list, with its spare room.
func fill(l texts) {
	l = l[:cap(l)]
	for i := range l {
		l[i] = "scribbled"
	}
}

// P1: at all arguments there is an answer; a stream of any bytes ends at an error, or goes on.
func TestEveryCallEnds(t *testing.T) {
	for b := range 256 {
		one := string([]byte{byte(b)})
		for _, n := range []int{0, 1, 2, 3, 4, 5, 300, 1 << 17} {
			s := strings.Repeat(one, n)
			checkFed(t, texts{s})
			checkFed(t, texts{"", s, ""})
			checkFed(t, texts{"\x00", "\x00\x01", s, s})
		}
	}
	many := strings.Repeat("\x00\x00\x00\x01a", 1<<20)
	if l, errno := frame.New().Feed(many); len(l) != 1<<20 || errno != api.OK {
		t.Error(len(l), errno)
	}
}

// What small chunks cost grows as they do, not as their square: a message of MaxFrame bytes does not take room for each beginning of it.
func TestSmallChunksCostLittle(t *testing.T) {
	p, _ := frame.Pack(xs(api.MaxFrame))
	var before, after runtime.MemStats
	runtime.ReadMemStats(&before)
	r := frame.New()
	for i := range p {
		r.Feed(p[i : i+1])
	}
	runtime.ReadMemStats(&after)
	if r.Left() != 0 {
		t.Error(r.Left())
	}
	if n := after.TotalAlloc - before.TotalAlloc; n > 1<<26 {
		t.Errorf("%d bytes were asked for", n)
	}
}

// No more is kept than what is left, however much was fed: many readers that have a few bytes left take little room.
func TestLittleIsKept(t *testing.T) {
	great, _ := frame.Pack(xs(api.MaxFrame))
	for name, chunks := range map[string]texts{
		"one":          {great + "\x00\x00"},
		"two":          {great + great + "\x00\x00"},
		"cut":          {great[:4], great[4:60000], great[60000:] + "\x00\x00"},
		"one, nothing": {great, ""},
		"cut, nothing": {great[:60000], great[60000:]},
		"bad":          {great[:60000], great[60000:] + "\x00\x00\x00\x00" + great},
	} {
		readers := make([]*frame.Reader, 100)
		before := inUse()
		for i := range readers {
			readers[i] = frame.New()
			for _, c := range chunks {
				readers[i].Feed(c)
			}
		}
		if after := inUse(); after > before+1<<20 {
			t.Errorf("%s: %d bytes are kept", name, after-before)
		}
		runtime.KeepAlive(readers)
	}
}

// inUse is how many bytes are in use.
func inUse() uint64 {
	var m runtime.MemStats
	runtime.GC()
	runtime.ReadMemStats(&m)
	return m.HeapAlloc
}

// P4: readers don't meet one another, one behind the other or at one time.
func TestAtOneTime(t *testing.T) {
	chunks := cut(strings.Repeat("\x00\x00\x00\x03abc\x00\x00\x00\x01d", 50)+"\x00\x00\x00\x00", []int{1, 5, 9, 10, 100, 101, 333, 600})
	tell := func() (all texts) {
		r := frame.New()
		for _, c := range chunks {
			l, errno := r.Feed(c)
			all = append(all, l...)
			if errno != api.OK || r.Bad() {
				all = append(all, "end")
			}
		}
		return all
	}
	want := tell()
	if len(want) != 101 {
		t.Fatal(len(want))
	}
	done := make(chan bool)
	for range 8 {
		go func() {
			same := true
			for range 200 {
				same = same && slices.Equal(tell(), want)
			}
			done <- same
		}()
	}
	for range 8 {
		if !<-done {
			t.Error("another answer")
		}
	}
}
