package frame

import (
	"errors"
	"testing"

	"noria/api"
)

// What can't be taken off is told by errors.As, with its place and its length; what is not whole yet is none of these.
func TestFaults(t *testing.T) {
	for s, want := range map[string]struct {
		errno api.Errno
		text  string
	}{
		"":                                       {api.OK, "at 0: not whole yet"},
		"\x00\x00\x00":                           {api.OK, "at 0: not whole yet"},
		"\x00\x00\x00\x02a":                      {api.OK, "at 0: not whole yet"},
		"\x00\x00\x00\x01a":                      {api.OK, "at 5: not whole yet"},
		"\x00\x00\x00\x01a\x00\x00\x00\x01":      {api.OK, "at 5: not whole yet"},
		"\x00\x00\x00\x00":                       {api.ErrForm, "at 0: no message has 0 bytes"},
		"\x00\x00\x00\x01a\x00\x01\x00\x01":      {api.ErrLong, "at 5: no message has 65537 bytes"},
		"\x00\x00\x00\x02ab\xff\xff\xff\xff\x00": {api.ErrLong, "at 6: no message has 4294967295 bytes"},
	} {
		_, _, err := takeAll([]byte(s))
		var wrong badLength
		if is := errors.As(err, &wrong); is != (want.errno != api.OK) || wrong.errno != want.errno || err.Error() != want.text {
			t.Errorf("% x: %v", s, err)
		}
		if errors.Is(err, errShort) != (want.errno == api.OK) {
			t.Errorf("% x: %v", s, err)
		}
	}
}
