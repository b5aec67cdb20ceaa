package check

import (
	"errors"
	"testing"
)

// What is wrong is a fault, in a list wrapped with its place; in words the place stands behind it, however deep it is wrapped.
func TestFaults(t *testing.T) {
	for _, c := range []struct {
		err         error
		told, words string
	}{
		{fault("port"), "port", "port"},
		{placed{3, fault("rule")}, "at 3: rule", "rule 3"},
		{placed{0, fault("addr")}, "at 0: addr", "addr 0"},
		{errors.Join(placed{12, fault("rule")}), "at 12: rule", "rule 12"},
	} {
		if got := c.err.Error(); got != c.told {
			t.Errorf("%q, want %q", got, c.told)
		}
		if got := inWords(c.err); got != c.words {
			t.Errorf("%q, want %q", got, c.words)
		}
	}
	for _, err := range []error{nil, errors.New("another"), placed{1, errors.New("another")}} {
		if got := inWords(err); got != "" {
			t.Errorf("%v: %q, want nothing", err, got)
		}
	}
	if err := faultIf(false, "port"); err != nil {
		t.Error(err)
	}
}
