package frame_test

import (
	"encoding/binary"
	"math/rand"
	"slices"
	"strings"
	"testing"

	"noria/api"
	"noria/frame"
)

// state is what is told of all that was fed by now, in whatever chunks.
type state struct {
	told  texts
	errno api.Errno
	left  int
}

// plainState is the chapter's, gone through from the first byte on.
func plainState(s string) state {
	var st state
	for len(s) >= 4 {
		n := binary.BigEndian.Uint32([]byte(s))
		if n == 0 {
			return state{told: st.told, errno: api.ErrForm}
		}
		if n > 65536 {
			return state{told: st.told, errno: api.ErrLong}
		}
		if len(s) < 4+int(n) {
			break
		}
		st.told = append(st.told, s[4:4+n])
		s = s[4+n:]
	}
	st.left = len(s)
	return st
}

// cut is s in pieces, cut ahead of the bytes at these places, which are in order.
func cut(s string, at []int) texts {
	var l texts
	from := 0
	for _, to := range append(slices.Clip(at), len(s)) {
		l = append(l, s[from:to])
		from = to
	}
	return l
}

// checkFed feeds the chunks to a new reader, and holds each answer against the plain one; it tells of how many messages there were, and whether it came to an error.
func checkFed(t *testing.T, chunks texts) (int, bool) {
	t.Helper()
	r, all, before := frame.New(), "", state{}
	for _, c := range chunks {
		all += c
		now := plainState(all)
		told, errno := r.Feed(c)
		if !slices.Equal(told, now.told[len(before.told):]) || errno != now.errno || r.Left() != now.left || r.Bad() != (now.errno != 0) {
			t.Fatalf("% .40x, % .40x of it new: %.40q, %d, left %d, bad %v", all, c, told, errno, r.Left(), r.Bad())
		}
		before = now
	}
	return len(before.told), before.errno != 0
}

// P6.2: a stream of a few messages, cut in every way that there is.
func TestEveryCut(t *testing.T) {
	s := "\x00\x00\x00\x01a\x00\x00\x00\x02bc\x00\x00\x00\x01d"
	for ways := range 1 << (len(s) - 1) {
		var at []int
		for i := range len(s) - 1 {
			if ways>>i&1 == 1 {
				at = append(at, i+1)
			}
		}
		if n, bad := checkFed(t, cut(s, at)); n != 3 || bad {
			t.Fatal(at, n, bad)
		}
	}
}

// someStream is some messages packed one behind the other, small ones and great ones.
func someStream(r *rand.Rand) (s string, l texts) {
	for range r.Intn(8) {
		n := 1 + r.Intn(api.MaxFrame>>r.Intn(17))
		b := make([]byte, n)
		r.Read(b)
		m := string(b)
		p, _ := frame.Pack(m)
		s, l = s+p, append(l, m)
	}
	return s, l
}

func somePlaces(r *rand.Rand, s string) []int {
	at := make([]int, r.Intn(40))
	for i := range at {
		at[i] = r.Intn(len(s) + 1)
	}
	slices.Sort(at)
	return at
}

// P6.2: what was packed is told, each once, in order, however it is cut.
func TestStreams(t *testing.T) {
	r := rand.New(rand.NewSource(1))
	many := 0
	for range 1500 {
		s, want := someStream(r)
		var got texts
		reader := frame.New()
		for _, c := range cut(s, somePlaces(r, s)) {
			told, errno := reader.Feed(c)
			if errno != api.OK || reader.Bad() {
				t.Fatal(errno)
			}
			got = append(got, told...)
		}
		if !slices.Equal(got, want) || reader.Left() != 0 {
			t.Fatalf("%d messages for %d, %d left", len(got), len(want), reader.Left())
		}
		many += len(got)
	}
	if many < 4000 {
		t.Error("few messages:", many)
	}
}

// P6.1, P6.2: any bytes, in any chunks, are answered as the plain way does.
func TestPlain(t *testing.T) {
	r := rand.New(rand.NewSource(2))
	const bytes = "\x00\x00\x00\x00\x00\x00\x00\x01\x01\x02\x03\x05\x08ab\xff"
	many, bads := 0, 0
	for range 100000 {
		var b strings.Builder
		for range r.Intn(8) {
			if r.Intn(8) > 0 {
				m := xs(r.Intn(6))
				b.WriteString("\x00\x00\x00" + string([]byte{byte(len(m))}) + m)
			} else {
				b.WriteByte(bytes[r.Intn(len(bytes))])
			}
		}
		s := b.String()
		n, bad := checkFed(t, cut(s, somePlaces(r, s)))
		many += n
		if bad {
			bads++
		}
	}
	if many < 100000 || bads < 20000 || bads > 80000 {
		t.Error(many, bads)
	}
}

// P6.2: byte by byte, great ones too.
func TestByteByByte(t *testing.T) {
	want := texts{"a", xs(api.MaxFrame), "b", strings.Repeat("\x00\x00\x00\x01a", 13107), xs(api.MaxFrame - 1), "c"}
	var got texts
	r := frame.New()
	for _, m := range want {
		s, _ := frame.Pack(m)
		for i := range s {
			told, errno := r.Feed(s[i : i+1])
			if whole := i == len(s)-1; (len(told) == 1) != whole || errno != api.OK || r.Left() != (i+1)%len(s) {
				t.Fatalf("byte %d: %d told, %d, left %d", i, len(told), errno, r.Left())
			}
			got = append(got, told...)
		}
	}
	if !slices.Equal(got, want) {
		t.Error("others were told")
	}
}
