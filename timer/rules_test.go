package timer_test

import (
	"runtime"
	"slices"
	"strconv"
	"strings"
	"testing"
	"unsafe"

	"noria/api"
	"noria/timer"
)

// stands tells whether a text stands where another one does.
func stands(x, s string) bool {
	from, at := uintptr(unsafe.Pointer(unsafe.StringData(s))), uintptr(unsafe.Pointer(unsafe.StringData(x)))
	return at >= from && at < from+uintptr(len(s))
}

// P3: an id that is handed in is not kept, and what Next tells is not what is kept.
func TestTextsAreNotKept(t *testing.T) {
	s := strings.Clone("some text of which an id is cut")
	x := timer.New()
	set(t, x, 1, s[:4], s[5:9])
	set(t, x, 1, s[:4])
	next, _, _ := x.Next()
	again, _, _ := x.Next()
	if next != "text" || stands(next, s) || stands(next, again) {
		t.Errorf("Next shares %q", next)
	}
	for _, id := range x.Due(1) {
		if stands(id, s) || stands(id, next) || stands(id, again) {
			t.Errorf("Due shares %q", id)
		}
	}
}

// P3: a list that is told is new, with its spare room: what is written there is seen nowhere else.
func TestListsAreNew(t *testing.T) {
	x, other := timer.New(), timer.New()
	l := ids{"a", "b", "c", "d", "e", "f"}
	for _, y := range []*timer.Timers{x, other} {
		set(t, y, 1, l[:3]...)
		set(t, y, 2, l[3:5]...)
		set(t, y, 3, l[5:]...)
	}
	one := x.Due(1)
	fill(one)
	two := x.Due(2)
	if !slices.Equal(two, l[3:5]) {
		t.Errorf("%q", two)
	}
	fill(one)
	if !slices.Equal(two, l[3:5]) {
		t.Errorf("%q", two)
	}
	fill(two)
	wantNext(t, x, "f", 3, true)
	wantDue(t, other, 3, l...)
}

// fill writes over a list, with its spare room.
func fill(l ids) {
	l = l[:cap(l)]
	for i := range l {
		l[i] = "scribbled"
	}
}

// P1: at all arguments there is an answer.
func TestEveryCallEnds(t *testing.T) {
	x := timer.New()
	times := []uint64{0, 1, 1<<31 - 1, 1 << 31, 1<<32 - 1, 1 << 32, 1<<63 - 1, 1 << 63, last - 1, last}
	for b := range 256 {
		one := string([]byte{byte(b)})
		for _, n := range []int{0, 1, 2, 63, 64, 65, 1 << 16} {
			id, ok := strings.Repeat(one, n), n > 0 && n < 65
			for _, at := range times {
				if errno := x.Set(id, at); (errno == api.OK) != ok {
					t.Errorf("Set(% .20x, %d) = %d", id, at, errno)
				}
			}
			if at, is := x.At(id); is != ok || ok && at != last {
				t.Errorf("At(% .20x) = %d, %v", id, at, is)
			}
		}
		if n := x.Len(); n != 4 {
			t.Errorf("%d timers", n)
		}
		for i, at := range times {
			if n := len(x.Due(at)); (n > 0) != (i == len(times)-1) {
				t.Errorf("at %d: %d are due", at, n)
			}
		}
	}
}

// tell is what timers answer to calls that are always the same.
func tell() (l ids) {
	x := timer.New()
	for i := range 3000 {
		x.Set(strconv.Itoa(i*7%1500), uint64(i*31%17))
		if i%5 == 0 {
			x.Stop(strconv.Itoa(i * 3 % 1500))
		}
		if i%700 == 0 {
			l = append(l, x.Due(uint64(i/500))...)
		}
	}
	return append(l, x.Due(last)...)
}

// P4: the same calls are answered the same, not by the order of a map; timers don't meet one another, one behind the other or at one time.
func TestSameAnswers(t *testing.T) {
	want := tell()
	if len(want) < 1000 {
		t.Fatal(len(want))
	}
	done := make(chan bool)
	for range 8 {
		go func() {
			same := true
			for range 20 {
				same = same && slices.Equal(tell(), want)
			}
			done <- same
		}()
	}
	for range 8 {
		if !<-done {
			t.Error("another answer")
		}
	}
}

// No more is kept than the timers there are, however many there were, and however often one was set.
func TestLittleIsKept(t *testing.T) {
	const many = 20
	all := make([]*timer.Timers, many)
	before := inUse()
	for i := range all {
		all[i] = timer.New()
		for n := range 50000 {
			set(t, all[i], uint64(n), "again", strings.Repeat("x", 50)+strconv.Itoa(n))
			all[i].Stop("stopped")
			set(t, all[i], last, "stopped")
			all[i].Due(uint64(n))
		}
		wantLen(t, all[i], 1)
	}
	if after := inUse(); after > before+many<<13 {
		t.Errorf("%d bytes are kept", after-before)
	}
	runtime.KeepAlive(all)
}

// inUse is how many bytes are in use.
func inUse() uint64 {
	var m runtime.MemStats
	runtime.GC()
	runtime.ReadMemStats(&m)
	return m.HeapAlloc
}
