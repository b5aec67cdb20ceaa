package check_test

import (
	"slices"
	"strings"
	"testing"

	"noria/api"
	"noria/check"
)

// asked is all that is told of a key and a body.
type asked struct {
	name, key, right, gone bool
	body                   string
	orders                 [3]int
}

func ask(k api.Key, body string, seq uint64) asked {
	other := api.Key{Type: api.Cluster, Name: "a"}
	return asked{
		name:   check.Name(k.Name),
		key:    check.Key(k),
		right:  check.Right(api.Resource{Key: k, Seq: seq, Body: body}),
		gone:   check.Right(api.Resource{Key: k, Seq: seq, Body: body, Gone: true}),
		body:   check.Body(k, body),
		orders: [3]int{check.Order(k, k), check.Order(k, other), check.Order(other, k)},
	}
}

// bodies are some of each word, and some that are right.
func bodies(t *testing.T) []string {
	l := []string{"", "\x00", "a", strings.Repeat("\x0a\x01a", 341), strings.Repeat("\x0a\x01a", 342), strings.Repeat("x", 1<<20)}
	for kind, p := range rightPayloads() {
		l = append(l, bodyOf(t, kind, p), bodyOf(t, kind, p)+"\x22\x00\x3a\x00\x10\x00\x28\x03\x42\x00")
	}
	slices.Sort(l)
	return l
}

// P1, P4, P6: at all arguments there is an answer, and the same one to the same, whatever was asked between.
func TestSameAnswers(t *testing.T) {
	var first []asked
	for i := range 2 {
		at := 0
		for _, kind := range append(slices.Clone(noTypes), allTypes...) {
			for _, name := range append(slices.Clone(noNames), someNames...) {
				for _, body := range bodies(t) {
					for _, seq := range []uint64{0, 1, 1 << 62, 1<<64 - 1} {
						got := ask(api.Key{Type: kind, Name: name}, body, seq)
						if i == 0 {
							first = append(first, got)
						} else if got != first[at] {
							t.Fatalf("%d, %.80q, % .80x, %d: %v, want %v", kind, name, body, seq, got, first[at])
						}
						at++
					}
				}
			}
		}
	}
}

// P4: calls at one time don't meet one another.
func TestAtOneTime(t *testing.T) {
	all := bodies(t)
	want := make([]string, len(all))
	for i, body := range all {
		want[i] = check.Body(api.Key{Type: api.Endpoint, Name: "a"}, body)
	}
	done := make(chan int)
	for range 8 {
		go func() {
			wrong := 0
			for i := range 20 * len(all) {
				if check.Body(api.Key{Type: api.Endpoint, Name: "a"}, all[i%len(all)]) != want[i%len(all)] {
					wrong++
				}
			}
			done <- wrong
		}()
	}
	for range 8 {
		if wrong := <-done; wrong > 0 {
			t.Errorf("%d answers were others", wrong)
		}
	}
}
