package link

import (
	"noria/api"
	"noria/frame"
)

// oneWay is what goes one way: the bytes that wait, and the reader of those that were taken.
type oneWay struct {
	*frame.Reader
	bytes []byte
	gone  int // how many of these, from the first on, were taken by now
}

// newWay is a way on which nothing waits, and nothing was read.
func newWay() oneWay { return oneWay{Reader: frame.New()} }

// waiting is how many bytes wait.
func (w *oneWay) waiting() int { return len(w.bytes) - w.gone }

// space is how many more bytes may wait.
func (w *oneWay) space() int { return Room - w.waiting() }

// put has s wait behind what waits.
func (w *oneWay) put(s string) api.Errno {
	if len(s) > w.space() {
		return api.ErrFull
	}
	w.bytes = append(w.bytes, s...)
	return api.OK
}

// take takes away the first of the bytes that wait, at most so many.
func (w *oneWay) take(most int) string {
	from := w.gone
	w.gone += min(most, w.waiting())
	s := string(w.bytes[from:w.gone])
	// Not each time, so that what many small pieces cost grows as they do; soon, so that little room is kept for what is gone.
	if w.gone >= w.waiting() {
		w.bytes, w.gone = append([]byte(nil), w.bytes[w.gone:]...), 0
	}
	return s
}
