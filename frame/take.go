package frame

// headSize is of how many bytes a length is, ahead of its message.
const headSize = 4

// takeAll takes off the messages that b begins with: these, what stands behind them, and why no more can be taken off.
func takeAll(b []byte) ([]string, []byte, error) {
	var l []string
	for at := 0; ; {
		s, err := take(b[at:])
		if err != nil {
			return l, b[at:], fault{at, err}
		}
		l = append(l, s)
		at += headSize + len(s)
	}
}

// take takes off the message that b begins with.
func take(b []byte) (string, error) {
	if len(b) < headSize {
		return "", errShort
	}
	n := length(b)
	if err := checkLength(n); err != nil {
		return "", err
	}
	// Held against each other as 64 bits: on a small machine such a length need not fit an int.
	if uint64(len(b)-headSize) < n {
		return "", errShort
	}
	return string(b[headSize : headSize+n]), nil
}

// length is the number that the first bytes of b are.
func length(b []byte) uint64 {
	n := uint64(0)
	for _, x := range b[:headSize] {
		n = n<<8 | uint64(x)
	}
	return n
}

// head is the length n as bytes, the highest first.
func head(n int) string {
	var b [headSize]byte
	for i := range b {
		b[headSize-1-i] = byte(n >> (8 * i))
	}
	return string(b[:])
}
