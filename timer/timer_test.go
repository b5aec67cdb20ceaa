package timer_test

import (
	"math"
	"slices"
	"strconv"
	"strings"
	"testing"

	"noria/api"
	"noria/timer"
)

// most is how many timers there may be; last is the last time there is.
const (
	most = 1024
	last = math.MaxUint64
)

type ids = []string

// set sets timers of one time, in order.
func set(t *testing.T, x *timer.Timers, at uint64, l ...string) {
	t.Helper()
	for _, id := range l {
		if errno := x.Set(id, at); errno != api.OK {
			t.Fatalf("Set(%q, %d) = %d", id, at, errno)
		}
	}
}

func wantAt(t *testing.T, x *timer.Timers, id string, at uint64, ok bool) {
	t.Helper()
	if got, is := x.At(id); got != at || is != ok {
		t.Errorf("At(%q) = %d, %v; want %d, %v", id, got, is, at, ok)
	}
}

func wantNext(t *testing.T, x *timer.Timers, id string, at uint64, ok bool) {
	t.Helper()
	if got, when, is := x.Next(); got != id || when != at || is != ok {
		t.Errorf("Next() = %q, %d, %v; want %q, %d, %v", got, when, is, id, at, ok)
	}
}

func wantLen(t *testing.T, x *timer.Timers, n int) {
	t.Helper()
	if got := x.Len(); got != n {
		t.Errorf("Len() = %d, want %d", got, n)
	}
}

func wantDue(t *testing.T, x *timer.Timers, now uint64, want ...string) {
	t.Helper()
	if got := x.Due(now); !slices.Equal(got, want) {
		t.Errorf("Due(%d) = %q, want %q", now, got, want)
	}
}

func wantStop(t *testing.T, x *timer.Timers, id string, ok bool) {
	t.Helper()
	if got := x.Stop(id); got != ok {
		t.Errorf("Stop(%q) = %v", id, got)
	}
}

// full is as many timers as there may be, of times from 1 on, and their ids.
func full(t *testing.T) (*timer.Timers, ids) {
	t.Helper()
	x, l := timer.New(), ids{}
	for i := range most {
		l = append(l, strconv.Itoa(i))
		set(t, x, uint64(i+1), l[i])
	}
	wantLen(t, x, most)
	return x, l
}

// P7.1, P7.2: of no timers there is none.
func TestNew(t *testing.T) {
	x := timer.New()
	wantLen(t, x, 0)
	wantNext(t, x, "", 0, false)
	wantDue(t, x, 0)
	wantDue(t, x, last)
	for _, id := range []string{"", "a", strings.Repeat("x", 65)} {
		wantAt(t, x, id, 0, false)
		wantStop(t, x, id, false)
	}
	wantLen(t, x, 0)
	other := timer.New()
	set(t, other, 1, "a")
	wantLen(t, x, 0)
}

// P7.1: an id has 1 to 64 bytes, of any kind, and a time is any.
func TestSet(t *testing.T) {
	for _, id := range []string{"a", "B", "*", " ", "\x00", "\xff\xfe", "\u00e4", "a/b", "a\x00", strings.Repeat("x", 63), strings.Repeat("x", 64), strings.Repeat("\x00", 64), strings.Repeat("\u00e4", 32)} {
		for _, at := range []uint64{0, 1, 1 << 31, 1 << 32, 1<<63 - 1, 1 << 63, last} {
			x := timer.New()
			set(t, x, at, id)
			wantLen(t, x, 1)
			wantAt(t, x, id, at, true)
			wantNext(t, x, id, at, true)
			wantAt(t, x, id+"x", 0, false)
			wantAt(t, x, id[1:], 0, false)
			if at > 0 {
				wantDue(t, x, at-1)
			}
			wantLen(t, x, 1)
			wantDue(t, x, at, id)
			wantLen(t, x, 0)
		}
	}
}

// P7.1: an id that is empty, or too long, is refused, and nothing has changed, whether there is room or none.
func TestSetRefusesIds(t *testing.T) {
	x := timer.New()
	crowded, _ := full(t)
	for _, id := range []string{"", strings.Repeat("x", 65), strings.Repeat("x", 66), strings.Repeat("\u00e4", 33), strings.Repeat("\x00", 128), strings.Repeat("x", 256), strings.Repeat("x", 1<<20)} {
		if errno := x.Set(id, 1); errno != api.ErrArg {
			t.Errorf("%d bytes: %d", len(id), errno)
		}
		wantLen(t, x, 0)
		wantNext(t, x, "", 0, false)
		wantAt(t, x, id, 0, false)
		wantStop(t, x, id, false)
		if errno := crowded.Set(id, 0); errno != api.ErrArg {
			t.Errorf("%d bytes, no room: %d", len(id), errno)
		}
		wantLen(t, crowded, most)
		wantNext(t, crowded, "0", 1, true)
	}
}

// P7.1: beyond 1024 there is no room but for those there are; what is refused changes nothing.
func TestSetRefusesMore(t *testing.T) {
	x, l := full(t)
	for _, at := range []uint64{0, 5, last} {
		if errno := x.Set("more", at); errno != api.ErrFull {
			t.Errorf("Set at %d: %d", at, errno)
		}
		wantLen(t, x, most)
		wantAt(t, x, "more", 0, false)
		wantNext(t, x, "0", 1, true)
	}
	wantStop(t, x, "more", false)
	set(t, x, 3000, "0")
	set(t, x, 2000, "700")
	wantLen(t, x, most)
	wantAt(t, x, "0", 3000, true)
	want := slices.Concat(l[1:700], l[701:], ids{"700", "0"})
	wantDue(t, x, last, want...)
}

// P7.1: where one is gone there is room for another one.
func TestRoomAgain(t *testing.T) {
	x, l := full(t)
	wantStop(t, x, "500", true)
	wantLen(t, x, most-1)
	set(t, x, 0, "more")
	if errno := x.Set("500", 7); errno != api.ErrFull {
		t.Error(errno)
	}
	wantDue(t, x, 2, "more", "0", "1")
	set(t, x, 1, "c", "b", "a")
	if errno := x.Set("d", 7); errno != api.ErrFull {
		t.Error(errno)
	}
	wantDue(t, x, 4, "c", "b", "a", "2", "3")
	wantLen(t, x, most-5)
	wantDue(t, x, most, slices.Concat(l[4:500], l[501:])...)
	wantLen(t, x, 0)
	for _, id := range l {
		set(t, x, 9, id)
	}
	if errno := x.Set("more", 7); errno != api.ErrFull {
		t.Error(errno)
	}
}

// P7.1: a timer that is set anew has the new time alone, and counts as set last, also where its time stays.
func TestSetAnew(t *testing.T) {
	for _, c := range []struct {
		id   string
		at   uint64
		want ids
	}{
		{"a", 5, ids{"b", "c", "a"}},
		{"b", 5, ids{"a", "c", "b"}},
		{"c", 5, ids{"a", "b", "c"}},
		{"a", 4, ids{"a", "b", "c"}},
		{"b", 4, ids{"b", "a", "c"}},
		{"c", 4, ids{"c", "a", "b"}},
		{"a", 6, ids{"b", "c", "a"}},
		{"b", 6, ids{"a", "c", "b"}},
		{"b", 0, ids{"b", "a", "c"}},
		{"b", last, ids{"a", "c", "b"}},
	} {
		x := timer.New()
		set(t, x, 5, "a", "b", "c")
		set(t, x, c.at, c.id)
		wantLen(t, x, 3)
		wantAt(t, x, c.id, c.at, true)
		if got := x.Due(last); !slices.Equal(got, c.want) {
			t.Errorf("%s at %d: %q, want %q", c.id, c.at, got, c.want)
		}
	}
	x := timer.New()
	set(t, x, 5, "a", "b")
	set(t, x, 7, "a")
	set(t, x, 5, "a")
	wantDue(t, x, 4)
	wantDue(t, x, 5, "b", "a")
}

// P7.1: what is stopped is gone, the others stay.
func TestStop(t *testing.T) {
	for _, c := range []struct {
		stop string
		want ids
	}{
		{"a", ids{"b", "c", "d", "e"}},
		{"b", ids{"a", "c", "d", "e"}},
		{"c", ids{"a", "b", "d", "e"}},
		{"d", ids{"a", "b", "c", "e"}},
		{"e", ids{"a", "b", "c", "d"}},
	} {
		x := timer.New()
		for at, id := range []string{"a", "b", "c", "d", "e"} {
			set(t, x, uint64(at), id)
		}
		wantStop(t, x, "f", false)
		wantStop(t, x, "", false)
		wantLen(t, x, 5)
		wantStop(t, x, c.stop, true)
		wantLen(t, x, 4)
		wantAt(t, x, c.stop, 0, false)
		wantStop(t, x, c.stop, false)
		wantLen(t, x, 4)
		for at, id := range []string{"a", "b", "c", "d", "e"} {
			if id != c.stop {
				wantAt(t, x, id, uint64(at), true)
			}
		}
		wantDue(t, x, last, c.want...)
	}
}

// P7.1: what was stopped, or fell due, and is set again is a new timer, that counts as set last.
func TestSetAgain(t *testing.T) {
	x := timer.New()
	set(t, x, 5, "a", "b", "c")
	wantStop(t, x, "a", true)
	set(t, x, 5, "a")
	wantDue(t, x, 5, "b", "c", "a")
	for _, id := range []string{"a", "b", "c"} {
		wantAt(t, x, id, 0, false)
		wantStop(t, x, id, false)
	}
	set(t, x, 3, "c", "a")
	wantNext(t, x, "c", 3, true)
	wantDue(t, x, 5, "c", "a")
}

// P7.2: Next takes nothing away; it is the first by time, and of one time the one that was set first, whatever its id is.
func TestNext(t *testing.T) {
	x := timer.New()
	set(t, x, 9, "b")
	wantNext(t, x, "b", 9, true)
	set(t, x, 9, "a")
	wantNext(t, x, "b", 9, true)
	wantNext(t, x, "b", 9, true)
	set(t, x, 8, "z")
	wantNext(t, x, "z", 8, true)
	set(t, x, 8, "y")
	wantNext(t, x, "z", 8, true)
	set(t, x, 10, "z")
	wantNext(t, x, "y", 8, true)
	wantStop(t, x, "y", true)
	wantNext(t, x, "b", 9, true)
	wantStop(t, x, "b", true)
	wantNext(t, x, "a", 9, true)
	wantStop(t, x, "a", true)
	wantNext(t, x, "z", 10, true)
	wantStop(t, x, "z", true)
	wantNext(t, x, "", 0, false)
	set(t, x, 0, "o")
	wantNext(t, x, "o", 0, true)
}

// P7.2, P7.3: due is what has its time at most now; what is due is gone, the others stay.
func TestDue(t *testing.T) {
	x := timer.New()
	set(t, x, 4, "d")
	set(t, x, 2, "z", "b")
	set(t, x, 0, "o")
	set(t, x, 3, "c")
	set(t, x, 2, "a")
	set(t, x, last, "l", "k")
	set(t, x, last-1, "m")
	wantDue(t, x, 0, "o")
	wantDue(t, x, 0)
	wantDue(t, x, 1)
	wantLen(t, x, 8)
	wantDue(t, x, 3, "z", "b", "a", "c")
	wantLen(t, x, 4)
	for _, id := range []string{"o", "z", "b", "a", "c"} {
		wantAt(t, x, id, 0, false)
	}
	wantDue(t, x, 3)
	wantDue(t, x, 2)
	wantAt(t, x, "d", 4, true)
	wantNext(t, x, "d", 4, true)
	wantDue(t, x, last-1, "d", "m")
	wantDue(t, x, last-1)
	wantNext(t, x, "l", last, true)
	wantDue(t, x, last, "l", "k")
	wantDue(t, x, last)
	wantLen(t, x, 0)
}

// P7.2: no time is known to the timers but those that are handed in: what is set for a time that was asked for already is due.
func TestTimesGoBack(t *testing.T) {
	x := timer.New()
	set(t, x, 100, "a")
	wantDue(t, x, 100, "a")
	set(t, x, 5, "b")
	set(t, x, 4, "c")
	wantDue(t, x, 4, "c")
	wantDue(t, x, 3)
	wantDue(t, x, 5, "b")
}

// P7.3: as many as there may be of one time fall due as they were set, whatever their ids are.
func TestOneTime(t *testing.T) {
	x := timer.New()
	var want ids
	for i := range most {
		id := strconv.Itoa(i * 389 % most)
		set(t, x, 7, id)
		want = append(want, id)
	}
	wantDue(t, x, 6)
	for _, id := range want[:10] {
		set(t, x, 7, id)
	}
	wantDue(t, x, 7, slices.Concat(want[10:], want[:10])...)
}

// P7.3: as many as there may be fall due by their times, whatever order they were set in.
func TestManyTimes(t *testing.T) {
	x := timer.New()
	for i := range most {
		n := i * 389 % most
		set(t, x, uint64(n/4)<<40, strconv.Itoa(n))
	}
	for at := range uint64(most / 4) {
		got := x.Due(at << 40)
		if len(got) != 4 {
			t.Fatal(at, got)
		}
		turn := func(id string) int {
			n, _ := strconv.Atoi(id)
			if n/4 != int(at) {
				t.Errorf("%s fell due at %d", id, at)
			}
			// 389 times 845 is 1 modulo 1024: when it was set.
			return n * 845 % most
		}
		if !slices.IsSortedFunc(got, func(a, b string) int { return turn(a) - turn(b) }) {
			t.Errorf("at %d: %q", at, got)
		}
	}
	wantLen(t, x, 0)
}
