package store_test

import (
	"testing"

	"noria/store"
)

// P12.3: what has been idle for grace ticks or more goes, and is told; once.
func TestSweepGrace(t *testing.T) {
	for _, x := range []struct {
		grace, since, now uint64
		goes              bool
	}{
		{0, 0, 0, true}, {0, 5, 5, true}, {0, 5, 6, true}, {0, 5, never, true}, {0, never, never, true},
		{0, 5, 4, false}, {0, 5, 0, false}, {0, never, 0, false}, {0, never, never - 1, false}, {0, 1 << 63, 1, false},
		{1, 5, 4, false}, {1, 5, 5, false}, {1, 5, 6, true}, {1, never, 0, false}, {1, never, never, false},
		{10, 5, 14, false}, {10, 5, 15, true}, {10, 5, 16, true}, {10, 5, 4, false}, {10, 1 << 32, 1<<32 + 9, false}, {10, 1 << 32, 1<<32 + 10, true},
		{10, never - 5, never, false}, {10, never - 10, never, true}, {10, never, 4, false}, {10, never, 9, false}, {10, never, 10, false},
		{1 << 32, 0, 1<<32 - 1, false}, {1 << 32, 0, 1 << 32, true}, {1 << 63, 5, 1<<63 + 4, false}, {1 << 63, 5, 1<<63 + 5, true},
		{never, 0, never - 1, false}, {never, 0, never, true}, {never, 1, never, false}, {never, 1, 0, false}, {never, 2, 1, false},
	} {
		s := store.New(3, x.grace)
		putKeys(t, s, x.since, a("a"))
		if x.goes {
			sweep(t, s, x.now, a("a"))
			keeps(t, s)
			nothing(t, s, a("a"))
		} else {
			sweep(t, s, x.now)
			keeps(t, s, a("a"))
		}
		sweep(t, s, x.now)
	}
}

// P12.3: what goes is told rising by Order, whatever was idle first.
func TestSweepOrder(t *testing.T) {
	s := store.New(10, 0)
	putKeys(t, s, 1, at(3, "a"), at(1, "b"))
	putKeys(t, s, 2, at(2, "a"), at(1, "a/"))
	putKeys(t, s, 0, at(5, "0"), at(1, "c"))
	putKeys(t, s, 3, at(1, "a"))
	sweep(t, s, 2, at(1, "a/"), at(1, "b"), at(1, "c"), at(2, "a"), at(3, "a"), at(5, "0"))
	keeps(t, s, at(1, "a"))
}

// P12.3: what nobody wants any more is idle from the Sweep on, not from when it was put, nor from when it was last wanted.
func TestSweepFromNowOn(t *testing.T) {
	s := store.New(10, 10)
	watch(t, s, a("a"), 2)
	putKeys(t, s, 0, a("a"), a("b"))
	sweep(t, s, 50, a("b"))
	watch(t, s, a("a"), -1)
	sweep(t, s, 60)
	watch(t, s, a("a"), -1)
	sweep(t, s, 70)
	sweep(t, s, 75)
	sweep(t, s, 79)
	sweep(t, s, 80, a("a"))

	// With no grace it goes at once.
	s = store.New(10, 0)
	watch(t, s, a("*"), 1)
	putKeys(t, s, 9, a("a"))
	watch(t, s, a("*"), -1)
	sweep(t, s, 3, a("a"))

	// A Sweep at an earlier time does not make it idle since then.
	s = store.New(10, 10)
	putKeys(t, s, 20, a("a"))
	sweep(t, s, 5)
	sweep(t, s, 29)
	sweep(t, s, 30, a("a"))
}

// P12.3, P12.4: what somebody wants is not idle, and does not go; when nobody does any more it is idle anew.
func TestSweepWanted(t *testing.T) {
	for _, k := range (keys{a("a"), a("*")}) {
		s := store.New(10, 10)
		putKeys(t, s, 0, a("a"), at(2, "a"))
		watch(t, s, k, 1)
		sweep(t, s, 5)
		watch(t, s, k, -1)
		sweep(t, s, 12, at(2, "a"))
		watch(t, s, k, 3)
		for _, now := range []uint64{100, never, 0} {
			sweep(t, s, now)
			keeps(t, s, a("a"))
		}
		watch(t, s, k, -3)
		sweep(t, s, 5)
		sweep(t, s, 14)
		sweep(t, s, 15, a("a"))
	}
}

// P12.3: a Sweep alone sees that something is wanted: what was wanted between two of them, and is not any more, has been idle all the while.
func TestSweepSeesWhatIsWantedThen(t *testing.T) {
	s := store.New(10, 10)
	putKeys(t, s, 0, a("a"), a("b"))
	sweep(t, s, 3)
	watch(t, s, a("a"), 1)
	watch(t, s, a("a"), -1)
	sweep(t, s, 10, a("a"), a("b"))
}

// P12.3: a key that went is as one that never was.
func TestSweepForgets(t *testing.T) {
	s := store.New(1, 10)
	put(t, s, 0, of(a("a"), 9))
	sweep(t, s, 10, a("a"))
	put(t, s, 12, of(a("a"), 1))
	sweep(t, s, 21)
	sweep(t, s, 22, a("a"))
	putKeys(t, s, 22, a("b"))
	keeps(t, s, a("b"))
}
