package text

import "strings"

// reader goes through a written string, and builds the one that it stands for.
// Each of its methods that answers false has left it at the byte that can't stand there.
type reader struct {
	strings.Builder
	text string
	at   int
}

// look is the byte at which the reader is. The end of the text is told as a byte 0: nothing takes either of them.
func (r *reader) look() byte {
	if r.at == len(r.text) {
		return 0
	}
	return r.text[r.at]
}

// skip goes past a byte, if it is the one that is asked for.
func (r *reader) skip(b byte) bool {
	if r.look() != b {
		return false
	}
	r.at++
	return true
}

// whole reads a string from " to ".
func (r *reader) whole() bool {
	if !r.skip('"') {
		return false
	}
	for !r.skip('"') {
		if !r.one() {
			return false
		}
	}
	return true
}

// one reads what stands for one byte of the string.
func (r *reader) one() bool {
	if r.skip('\\') {
		return r.marked()
	}
	b := r.look()
	if !plain(b) {
		return false
	}
	r.at++
	r.WriteByte(b)
	return true
}

// marked reads what is behind a \.
func (r *reader) marked() bool {
	switch {
	case r.skip('x'):
		return r.number()
	case r.skip('"'):
		r.WriteByte('"')
	case r.skip('\\'):
		r.WriteByte('\\')
	default:
		return false
	}
	return true
}

// number reads the two digits behind \x.
func (r *reader) number() bool {
	var b byte
	for range 2 {
		n, ok := worth(r.look())
		if !ok {
			return false
		}
		r.at++
		b = b<<4 | n
	}
	r.WriteByte(b)
	return true
}

// worth is the number that a hexadecimal digit stands for, if a byte is one.
func worth(b byte) (byte, bool) {
	switch {
	case isDigit(b):
		return b - '0', true
	case b >= 'a' && b <= 'f':
		return b - 'a' + 10, true
	case b >= 'A' && b <= 'F':
		return b - 'A' + 10, true
	}
	return 0, false
}
