package wire

import (
	"errors"
	"testing"
)

// Who breaks off a range is asked no more.
func TestRangesStop(t *testing.T) {
	seen := 0
	for f, err := range fieldsOf("\x08\x05\x08\x06") {
		if seen++; f.N != 5 || err != nil {
			t.Error(f, err)
		}
		break
	}
	for f := range withNum([]Field{{Num: 1, N: 5}, {Num: 1, N: 6}}, 1) {
		if seen++; f.N != 5 {
			t.Error(f)
		}
		break
	}
	if seen != 2 {
		t.Error(seen)
	}
}

// Whatever is wrong is told by errForm, and by its places; it comes last, and once.
func TestFaults(t *testing.T) {
	for s, want := range map[string]string{
		"\x08\x05\x00":     "at 2: at 0: not of the form",
		"\x08\x05\x12\x02": "at 2: at 2: not of the form",
		"\x08\xff":         "at 0: at 1: at 1: not of the form",
	} {
		var last error
		for _, err := range fieldsOf(s) {
			if last != nil {
				t.Errorf("% x: something behind an error", s)
			}
			last = err
		}
		if !errors.Is(last, errForm) || last.Error() != want {
			t.Errorf("% x: %v, want %s", s, last, want)
		}
	}
	if err := checkField(Field{}); !errors.Is(err, errForm) {
		t.Error(err)
	}
	if err := checkField(Field{Num: 1}); err != nil {
		t.Error(err)
	}
}
