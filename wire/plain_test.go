package wire_test

import (
	"iter"
	"math/rand"

	"noria/wire"
)

// plainVarint is the chapter's Varint, by division.
func plainVarint(n uint64) string {
	if n < 128 {
		return string([]byte{byte(n)})
	}
	return string([]byte{byte(n%128) + 128}) + plainVarint(n/128)
}

// plainNumber is the chapter's ReadVarint, from the last byte to the first.
func plainNumber(s string) (n uint64, size int, ok bool) {
	for size < len(s) && s[size] >= 128 {
		size++
	}
	if size == len(s) || size > 9 || size == 9 && s[9] > 1 {
		return 0, 0, false
	}
	for i := size; i >= 0; i-- {
		n = n*128 + uint64(s[i]%128)
	}
	return n, size + 1, true
}

// plainParse is the chapter's Parse, without a sparing word.
func plainParse(s string) (l []wire.Field, ok bool) {
	for s != "" {
		tag, size, ok := plainNumber(s)
		if !ok || tag < 8 || tag > 0xffffffff {
			return nil, false
		}
		s = s[size:]
		f := wire.Field{Num: int(tag / 8), Kind: int(tag % 8)}
		many := uint64(0)
		switch f.Kind {
		case 0, 2:
			if many, size, ok = plainNumber(s); !ok {
				return nil, false
			}
			s = s[size:]
		case 1:
			many = 8
		case 5:
			many = 4
		default:
			return nil, false
		}
		if f.Kind == 0 {
			f.N = many
		} else if many > uint64(len(s)) {
			return nil, false
		} else {
			f.S, s = s[:many], s[many:]
		}
		l = append(l, f)
	}
	return l, true
}

// someTexts goes over all texts of at most two bytes, and over many longer ones: of bytes that matter here, and of fields one behind the other, some with a byte that was turned.
func someTexts() iter.Seq[string] {
	return func(yield func(string) bool) {
		for n := range 1 + 256 + 256*256 {
			s := ""
			for n > 0 {
				s += string([]byte{byte(n - 1)})
				n = (n - 1) / 256
			}
			if !yield(s) {
				return
			}
		}
		r := rand.New(rand.NewSource(1))
		for range 200000 {
			b := someBytes(r)
			if r.Intn(2) == 0 {
				b = someFields(r)
			}
			if !yield(string(b)) {
				return
			}
		}
	}
}

func someBytes(r *rand.Rand) []byte {
	const bytes = "\x00\x01\x02\x03\x05\x08\x09\x0a\x0d\x0f\x10\x12\x7f\x80\x80\x80\x80\x80\x81\x88\x8a\xff\xff\xff"
	b := make([]byte, r.Intn(24))
	for i := range b {
		b[i] = bytes[r.Intn(len(bytes))]
	}
	return b
}

func someFields(r *rand.Rand) []byte {
	var b []byte
	for range r.Intn(5) {
		num := 1 + uint64(r.Int63n(1<<29-1))>>r.Intn(29)
		s := make([]byte, r.Intn(12))
		r.Read(s)
		switch r.Intn(4) {
		case 0:
			b = append(b, plainVarint(num*8)+plainVarint(r.Uint64()>>r.Intn(64))...)
		case 1:
			b = append(b, plainVarint(num*8+1)+"\x00\xff345678"...)
		case 2:
			b = append(b, plainVarint(num*8+2)+plainVarint(uint64(len(s)))+string(s)...)
		case 3:
			b = append(b, plainVarint(num*8+5)+"\x80\x0034"...)
		}
	}
	if len(b) > 0 && r.Intn(2) == 0 {
		b[r.Intn(len(b))] ^= 1 << r.Intn(8)
	}
	return b
}
