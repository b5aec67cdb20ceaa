package wire_test

import (
	"math"
	"slices"
	"strings"
	"testing"

	"noria/wire"
)

// The least and greatest numbers of each length, and what is near the ends of 64 bits.
func someNumbers() []uint64 {
	l := []uint64{0, 300, 1<<32 - 1, 1 << 32, math.MaxInt64, math.MaxUint64 - 1, math.MaxUint64}
	for bits := 7; bits < 64; bits += 7 {
		l = append(l, 1<<bits-1, 1<<bits, 1<<bits+1)
	}
	return l
}

// P1.1: the groups of seven bits, the lowest first, as few as may be.
func TestVarint(t *testing.T) {
	for _, c := range []struct {
		n    uint64
		want string
	}{
		{0, "\x00"},
		{1, "\x01"},
		{127, "\x7f"},
		{128, "\x80\x01"},
		{255, "\xff\x01"},
		{300, "\xac\x02"},
		{1<<14 - 1, "\xff\x7f"},
		{1 << 14, "\x80\x80\x01"},
		{1<<32 - 1, "\xff\xff\xff\xff\x0f"},
		{1<<63 - 1, "\xff\xff\xff\xff\xff\xff\xff\xff\x7f"},
		{1 << 63, "\x80\x80\x80\x80\x80\x80\x80\x80\x80\x01"},
		{1<<64 - 1, "\xff\xff\xff\xff\xff\xff\xff\xff\xff\x01"},
	} {
		if got := wire.Varint(c.n); got != c.want {
			t.Errorf("Varint(%d) = % x, want % x", c.n, got, c.want)
		}
	}
	for _, n := range someNumbers() {
		if got, want := wire.Varint(n), plainVarint(n); got != want {
			t.Errorf("Varint(%d) = % x, want % x", n, got, want)
		}
	}
}

// P1.1: what Varint made is read, whatever stands behind it.
func TestReadVarintOfVarint(t *testing.T) {
	for _, n := range someNumbers() {
		s := wire.Varint(n)
		for _, behind := range []string{"", "\x00", "\x80", "\xff", "text"} {
			got, size, ok := wire.ReadVarint(s + behind)
			if got != n || size != len(s) || !ok {
				t.Errorf("ReadVarint(% x) = %d, %d, %v, want %d, %d", s+behind, got, size, ok, n, len(s))
			}
		}
	}
}

// P1.1: a number may be longer than it need be, but of at most ten bytes, the tenth at most 1.
func TestReadVarint(t *testing.T) {
	nine := strings.Repeat("\x80", 9)
	full := strings.Repeat("\xff", 9)
	for _, c := range []struct {
		s    string
		n    uint64
		size int
		ok   bool
	}{
		{"\x00", 0, 1, true},
		{"\x80\x00", 0, 2, true},
		{"\x81\x80\x00", 1, 3, true},
		{"\x81\x80\x80\x80\x80\x80\x80\x80\x00", 1, 9, true},
		{nine + "\x00", 0, 10, true},
		{nine + "\x01", 1 << 63, 10, true},
		{full + "\x00", 1<<63 - 1, 10, true},
		{full + "\x01", 1<<64 - 1, 10, true},
		{"\x05\x80", 5, 1, true},

		{"", 0, 0, false},
		{"\x80", 0, 0, false},
		{"\xff\xff", 0, 0, false},
		{nine, 0, 0, false},
		{nine + "\x02", 0, 0, false},
		{nine + "\x7f", 0, 0, false},
		{nine + "\x80", 0, 0, false},
		{nine + "\x81", 0, 0, false},
		{full + "\x02", 0, 0, false},
		{nine + "\x80\x00", 0, 0, false},
		{nine + "\x80\x01", 0, 0, false},
		{nine + "\x81\x00", 0, 0, false},
	} {
		n, size, ok := wire.ReadVarint(c.s)
		if n != c.n || size != c.size || ok != c.ok {
			t.Errorf("ReadVarint(% x) = %d, %d, %v, want %d, %d, %v", c.s, n, size, ok, c.n, c.size, c.ok)
		}
	}
}

// P1.1: held against a plain reader, byte by byte.
func TestReadVarintPlainly(t *testing.T) {
	for s := range someTexts() {
		n, size, ok := wire.ReadVarint(s)
		wantN, wantSize, wantOK := plainNumber(s)
		if n != wantN || size != wantSize || ok != wantOK {
			t.Fatalf("ReadVarint(% x) = %d, %d, %v, want %d, %d, %v", s, n, size, ok, wantN, wantSize, wantOK)
		}
	}
}

var putCases = []struct {
	f    wire.Field
	want string
}{
	{wire.Field{Num: 1}, "\x08\x00"},
	{wire.Field{Num: 1, N: 300}, "\x08\xac\x02"},
	{wire.Field{Num: 1, N: 1<<64 - 1}, "\x08\xff\xff\xff\xff\xff\xff\xff\xff\xff\x01"},
	{wire.Field{Num: 15, N: 1}, "\x78\x01"},
	{wire.Field{Num: 16, N: 1}, "\x80\x01\x01"},
	{wire.Field{Num: 1<<29 - 1, N: 1}, "\xf8\xff\xff\xff\x0f\x01"},
	{wire.Field{Num: 1, Kind: 1, S: "12345678"}, "\x0912345678"},
	{wire.Field{Num: 1<<29 - 1, Kind: 1, S: "\x00\x01\x02\x03\x04\x05\x06\xff"}, "\xf9\xff\xff\xff\x0f\x00\x01\x02\x03\x04\x05\x06\xff"},
	{wire.Field{Num: 2, Kind: 2}, "\x12\x00"},
	{wire.Field{Num: 2, Kind: 2, S: "ab"}, "\x12\x02ab"},
	{wire.Field{Num: 2, Kind: 2, S: "\x00\xff\x80"}, "\x12\x03\x00\xff\x80"},
	{wire.Field{Num: 3, Kind: 2, S: strings.Repeat("x", 127)}, "\x1a\x7f" + strings.Repeat("x", 127)},
	{wire.Field{Num: 3, Kind: 2, S: strings.Repeat("x", 128)}, "\x1a\x80\x01" + strings.Repeat("x", 128)},
	{wire.Field{Num: 3, Kind: 2, S: strings.Repeat("x", 1<<17)}, "\x1a\x80\x80\x08" + strings.Repeat("x", 1<<17)},
	{wire.Field{Num: 1<<29 - 1, Kind: 2, S: "a"}, "\xfa\xff\xff\xff\x0f\x01a"},
	{wire.Field{Num: 16, Kind: 5, S: "abcd"}, "\x85\x01abcd"},
	{wire.Field{Num: 1<<29 - 1, Kind: 5, S: "\x80\x80\x80\x80"}, "\xfd\xff\xff\xff\x0f\x80\x80\x80\x80"},
}

// P1.2: a field is its Num and Kind, and what its Kind asks; and it is parsed again (P1.4).
func TestPut(t *testing.T) {
	for _, c := range putCases {
		got, ok := wire.Put(c.f)
		if got != c.want || !ok {
			t.Errorf("Put(%v) = % x, %v, want % x", c.f, got, ok, c.want)
		}
		if l, ok := wire.Parse(got); !slices.Equal(l, []wire.Field{c.f}) || !ok {
			t.Errorf("Parse(% x) = %v, %v, want %v", got, l, ok, c.f)
		}
	}
}

// P1.2: no field is put whose Num or Kind is none, or that holds what its Kind has not. (P6: of any 64 bits.)
func TestPutRefuses(t *testing.T) {
	var l []wire.Field
	for _, num := range []int{0, -1, -8, 1 << 29, 1<<29 + 1, 1 << 32, 1<<61 + 1, math.MaxInt, math.MinInt, math.MinInt + 1} {
		l = append(l, wire.Field{Num: num}, wire.Field{Num: num, Kind: 1, S: "12345678"}, wire.Field{Num: num, Kind: 2}, wire.Field{Num: num, Kind: 5, S: "1234"})
	}
	for _, kind := range []int{-1, -3, 3, 4, 6, 7, 8, 10, 13, 1 << 32, 1<<32 + 2, math.MaxInt, math.MinInt} {
		l = append(l, wire.Field{Num: 1, Kind: kind}, wire.Field{Num: 1, Kind: kind, S: "1234"}, wire.Field{Num: 1, Kind: kind, S: "12345678"}, wire.Field{Num: 1, Kind: kind, N: 1})
	}
	for _, s := range []string{"x", "1234", "12345678"} {
		l = append(l, wire.Field{Num: 1, S: s}, wire.Field{Num: 1, N: 1, S: s})
	}
	for _, s := range []string{"", "1", "123", "12345", "1234567", "123456789", "1234567812345678"} {
		l = append(l, wire.Field{Num: 1, Kind: 1, S: s}, wire.Field{Num: 1, Kind: 5, S: s})
	}
	l = append(l, wire.Field{Num: 1, Kind: 1, S: "1234"}, wire.Field{Num: 1, Kind: 5, S: "12345678"})
	for _, n := range []uint64{1, 128, math.MaxUint64} {
		l = append(l, wire.Field{Num: 1, Kind: 1, N: n, S: "12345678"}, wire.Field{Num: 1, Kind: 2, N: n, S: "a"}, wire.Field{Num: 1, Kind: 2, N: n}, wire.Field{Num: 1, Kind: 5, N: n, S: "1234"})
	}
	for _, f := range l {
		if got, ok := wire.Put(f); got != "" || ok {
			t.Errorf("Put(%v) = % x, %v, want false", f, got, ok)
		}
	}
}

// P1.2: Number and Text are Put of the Kinds 0 and 2.
func TestNumberAndText(t *testing.T) {
	for _, num := range []int{1, 2, 15, 16, 1<<29 - 1, 0, -1, 1 << 29, 1<<61 + 1, math.MaxInt, math.MinInt} {
		for _, n := range someNumbers() {
			want, _ := wire.Put(wire.Field{Num: num, N: n})
			if got := wire.Number(num, n); got != want {
				t.Errorf("Number(%d, %d) = % x, want % x", num, n, got, want)
			}
		}
		for _, s := range []string{"", "a", "1234", "12345678", "\x00\xff", strings.Repeat("y", 300)} {
			want, _ := wire.Put(wire.Field{Num: num, Kind: 2, S: s})
			if got := wire.Text(num, s); got != want {
				t.Errorf("Text(%d, %q) = % x, want % x", num, s, got, want)
			}
		}
	}
	if got := wire.Number(1, 300); got != "\x08\xac\x02" {
		t.Errorf("Number(1, 300) = % x", got)
	}
	if got := wire.Text(2, "ab"); got != "\x12\x02ab" {
		t.Errorf("Text(2, ab) = % x", got)
	}
	if got := wire.Number(0, 1) + wire.Number(1<<29, 1) + wire.Text(-1, "a") + wire.Text(1<<29, "a"); got != "" {
		t.Errorf("of no Num: % x", got)
	}
}

// P1.2: fields one behind the other, their numbers as long as they please.
func TestParse(t *testing.T) {
	for _, c := range []struct {
		s    string
		want []wire.Field
	}{
		{"", nil},
		{"\x08\x05", []wire.Field{{Num: 1, N: 5}}},
		{"\x08\x05\x08\x06", []wire.Field{{Num: 1, N: 5}, {Num: 1, N: 6}}},
		{"\x12\x00\x12\x00", []wire.Field{{Num: 2, Kind: 2}, {Num: 2, Kind: 2}}},
		{"\x12\x02\x08\x05\x08\x05", []wire.Field{{Num: 2, Kind: 2, S: "\x08\x05"}, {Num: 1, N: 5}}},
		{"\x1dabcd\x1912345678\x18\x01\x1a\x01z", []wire.Field{{Num: 3, Kind: 5, S: "abcd"}, {Num: 3, Kind: 1, S: "12345678"}, {Num: 3, N: 1}, {Num: 3, Kind: 2, S: "z"}}},

		{"\x88\x00\x05", []wire.Field{{Num: 1, N: 5}}},
		{"\x88\x80\x80\x80\x80\x80\x80\x80\x80\x00\x05", []wire.Field{{Num: 1, N: 5}}},
		{"\x08\x85\x80\x00", []wire.Field{{Num: 1, N: 5}}},
		{"\x08\x85\x80\x80\x80\x80\x80\x80\x80\x80\x00", []wire.Field{{Num: 1, N: 5}}},
		{"\x12\x81\x00a", []wire.Field{{Num: 2, Kind: 2, S: "a"}}},
		{"\x12\x81\x80\x80\x80\x80\x80\x80\x80\x80\x00a", []wire.Field{{Num: 2, Kind: 2, S: "a"}}},
		{"\x12\x80\x00", []wire.Field{{Num: 2, Kind: 2}}},

		{"\xf8\xff\xff\xff\x0f\x07", []wire.Field{{Num: 1<<29 - 1, N: 7}}},
		{"\xfd\xff\xff\xff\x0fabcd", []wire.Field{{Num: 1<<29 - 1, Kind: 5, S: "abcd"}}},
		{"\xfd\xff\xff\xff\x8f\x00abcd", []wire.Field{{Num: 1<<29 - 1, Kind: 5, S: "abcd"}}},
	} {
		if got, ok := wire.Parse(c.s); !slices.Equal(got, c.want) || !ok {
			t.Errorf("Parse(% x) = %v, %v, want %v", c.s, got, ok, c.want)
		}
	}
}

var noFields = []string{
	// no number ahead of the Kind's bytes
	"\x80", "\xff", "\x88\x80", strings.Repeat("\x80", 9) + "\x02", "\x88" + strings.Repeat("\x80", 9) + "\x00\x05",
	// above 2^32 - 1
	"\x80\x80\x80\x80\x10\x00", "\x88\x80\x80\x80\x10\x00", "\x88\x80\x80\x80\x80\x80\x80\x80\x80\x01\x05", "\x88\x80\x80\x80\x80\x01\x05", "\xff\xff\xff\xff\xff\xff\xff\xff\xff\x01\x05",
	// no Num
	"\x00", "\x00\x01", "\x80\x00\x01", "\x0112345678", "\x02\x00", "\x02\x01a", "\x051234",
	// no Kind
	"\x0b", "\x0c", "\x0e", "\x0f", "\x0b\x00", "\x0c\x00", "\x0e\x00", "\x0f\x00", "\x0b1234", "\x0e12345678", "\xff\xff\xff\xff\x0f", "\xfb\xff\xff\xff\x0f\x00",
	// no number
	"\x08", "\x08\x80", "\x08" + strings.Repeat("\xff", 9) + "\x02", "\x08" + strings.Repeat("\x80", 10) + "\x00",
	// bytes are missing
	"\x09", "\x091", "\x091234567", "\x0d", "\x0d123", "\x12", "\x12\x80", "\x12\x01", "\x12\x02a", "\x12\x81\x00", "\x12" + strings.Repeat("\x80", 9) + "\x02a",
	// sizes that would wrap
	"\x12\xff\xff\xff\xff\xff\xff\xff\xff\xff\x01", "\x12\xff\xff\xff\xff\xff\xff\xff\xff\xff\x01a", "\x12\x80\x80\x80\x80\x80\x80\x80\x80\x80\x01", "\x12\xff\xff\xff\xff\xff\xff\xff\xff\x7fa", "\x12\x80\x80\x80\x80\x10a", "\x12\x81\x80\x80\x80\x10a",
}

// P1.2: what is not made of fields is none, also behind, and ahead of, what is; P2: nothing is told then.
func TestParseRefuses(t *testing.T) {
	for _, s := range noFields {
		for _, whole := range []string{s, "\x08\x05" + s, "\x12\x01a\x0d1234" + s} {
			if l, ok := wire.Parse(whole); len(l) != 0 || ok {
				t.Errorf("Parse(% x) = %v, %v, want false", whole, l, ok)
			}
		}
	}
	for _, s := range []string{"\x00\x01", "\x0b\x00", "\xff\xff\xff\xff\xff\xff\xff\xff\xff\x01"} {
		if l, ok := wire.Parse(s + "\x08\x05"); len(l) != 0 || ok {
			t.Errorf("Parse(% x) = %v, %v, want false", s, l, ok)
		}
	}
}

// P1.2: held against a plain parser; whatever comes, no call panics (P1).
func TestParsePlainly(t *testing.T) {
	parsed := 0
	for s := range someTexts() {
		l, ok := wire.Parse(s)
		want, wantOK := plainParse(s)
		if !slices.Equal(l, want) || ok != wantOK {
			t.Fatalf("Parse(% x) = %v, %v, want %v, %v", s, l, ok, want, wantOK)
		}
		if ok {
			parsed++
		}
	}
	if parsed < 50000 {
		t.Errorf("only %d texts were parsed", parsed)
	}
}

// P1.3: the last of a Num, all of a Num, whatever Kind.
func TestLastAndAll(t *testing.T) {
	l := []wire.Field{{Num: 1, N: 5}, {Num: 2, Kind: 2, S: "a"}, {Num: 1, Kind: 2, S: "b"}, {Num: 1, N: 5}, {Num: 2, Kind: 2}, {Num: 1<<29 - 1, N: 9}, {Num: 3, Kind: 5, S: "abcd"}}
	for _, c := range []struct {
		num int
		all []wire.Field
	}{
		{1, []wire.Field{{Num: 1, N: 5}, {Num: 1, Kind: 2, S: "b"}, {Num: 1, N: 5}}},
		{2, []wire.Field{{Num: 2, Kind: 2, S: "a"}, {Num: 2, Kind: 2}}},
		{3, []wire.Field{{Num: 3, Kind: 5, S: "abcd"}}},
		{1<<29 - 1, []wire.Field{{Num: 1<<29 - 1, N: 9}}},
		{4, nil},
		{0, nil},
		{-1, nil},
		{1 << 29, nil},
		{math.MaxInt, nil},
		{math.MinInt, nil},
	} {
		if got := wire.All(l, c.num); !slices.Equal(got, c.all) {
			t.Errorf("All(%d) = %v, want %v", c.num, got, c.all)
		}
		want, is := wire.Field{}, len(c.all) > 0
		if is {
			want = c.all[len(c.all)-1]
		}
		if got, ok := wire.Last(l, c.num); got != want || ok != is {
			t.Errorf("Last(%d) = %v, %v, want %v, %v", c.num, got, ok, want, is)
		}
	}
	if f, ok := wire.Last(nil, 1); f != (wire.Field{}) || ok {
		t.Errorf("Last of nothing = %v, %v", f, ok)
	}
	if got := wire.All(nil, 1); len(got) != 0 {
		t.Errorf("All of nothing = %v", got)
	}
}

// P1.4: what was put is parsed, field by field, in order.
func TestPutIsParsed(t *testing.T) {
	var fields []wire.Field
	for _, num := range []int{1, 2, 15, 16, 2047, 2048, 1 << 20, 1<<29 - 1} {
		for _, n := range someNumbers() {
			fields = append(fields, wire.Field{Num: num, N: n})
		}
		for _, s := range []string{"", "\x00", "\x08", "\xff\xff", strings.Repeat("\x80", 127), strings.Repeat("z", 16384)} {
			fields = append(fields, wire.Field{Num: num, Kind: 2, S: s})
		}
		fields = append(fields, wire.Field{Num: num, Kind: 1, S: "\x0012345\x80\xff"}, wire.Field{Num: num, Kind: 5, S: "\x80\x00\xff\x08"})
	}
	var all strings.Builder
	for _, f := range fields {
		s, ok := wire.Put(f)
		if !ok {
			t.Fatalf("Put(%v) is false", f)
		}
		all.WriteString(s)
	}
	if got, ok := wire.Parse(all.String()); !slices.Equal(got, fields) || !ok {
		t.Errorf("%d fields were parsed of %d, %v", len(got), len(fields), ok)
	}
}

// P1.4: two texts that are parsed are parsed one behind the other.
func TestParsedOneBehindTheOther(t *testing.T) {
	var texts []string
	for s := range someTexts() {
		if _, ok := wire.Parse(s); ok && (len(texts) < 100 || len(s) > 5 && len(texts) < 400) {
			texts = append(texts, s)
		}
	}
	if len(texts) < 400 {
		t.Fatalf("only %d texts", len(texts))
	}
	for _, a := range texts {
		for _, b := range texts {
			la, _ := wire.Parse(a)
			lb, _ := wire.Parse(b)
			if got, ok := wire.Parse(a + b); !slices.Equal(got, append(la, lb...)) || !ok {
				t.Fatalf("Parse(% x, % x) = %v, %v", a, b, got, ok)
			}
		}
	}
}
