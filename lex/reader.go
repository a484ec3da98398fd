package lex

import (
	"strings"

	"proteus/api"
	"proteus/num"
	"proteus/text"
)

// signs stand in the order in which they are tried: those of two bytes ahead, as some of one byte begin them.
var signs = [...]string{
	"<=", ">=", "==", "!=", "&&", "||",
	"(", ")", "{", "}", "[", "]", ",", ";", ":", ".", "+", "-", "*", "/", "%", "<", ">", "=", "!",
}

// longest is the longest sign with which a text begins, or nothing.
func longest(s string) string {
	for _, x := range signs {
		if strings.HasPrefix(s, x) {
			return x
		}
	}
	return ""
}

// run is the place up to which the bytes from at on go on.
func run(s string, at int, goesOn func(b byte) bool) int {
	for at < len(s) && goesOn(s[at]) {
		at++
	}
	return at
}

// skip is the place of the first byte from at on that is no blank.
func skip(s string, at int) int {
	for {
		at = run(s, at, func(b byte) bool { return b == ' ' || b == '\n' || b == '\t' })
		if !strings.HasPrefix(s[at:], "//") {
			return at
		}
		at = run(s, at, func(b byte) bool { return b != '\n' })
	}
}

// next is the token that begins at a place within s, and the place behind it; or an error, and the error's place.
func next(s string, at int) (Token, int, api.Errno) {
	switch b := s[at]; {
	case isLetter(b):
		return word(s, at)
	case isDigit(b):
		return number(s, at)
	case b == '"':
		return quoted(s, at)
	}
	return sign(s, at)
}

// word reads a key or a name.
func word(s string, at int) (Token, int, api.Errno) {
	to := run(s, at, func(b byte) bool { return isLetter(b) || isDigit(b) })
	t := Token{Kind: Name, Text: s[at:to], At: at}
	if IsKey(t.Text) {
		t.Kind = Key
	} else if !text.IsName(t.Text) {
		return Token{}, at, api.ErrWord
	}
	return t, to, api.OK
}

// number reads digits; its Text is not what is written, as zeros may stand ahead there.
func number(s string, at int) (Token, int, api.Errno) {
	to := run(s, at, isDigit)
	n, e := num.Read(s[at:to])
	if e != api.OK {
		return Token{}, at, e
	}
	return Token{Kind: Number, Text: num.Digits(n), N: n, At: at}, to, api.OK
}

// quoted reads a string.
func quoted(s string, at int) (Token, int, api.Errno) {
	x, n, e := text.Take(s[at:])
	if e != api.OK {
		return Token{}, at + n, e
	}
	if len(x) > api.MaxStr {
		return Token{}, at, api.ErrLong
	}
	return Token{Kind: Quoted, Text: x, At: at}, at + n, api.OK
}

// sign reads a sign.
func sign(s string, at int) (Token, int, api.Errno) {
	x := longest(s[at:])
	if x == "" {
		return Token{}, at, api.ErrWord
	}
	return Token{Kind: Sign, Text: x, At: at}, at + len(x), api.OK
}

func isDigit(b byte) bool { return b >= '0' && b <= '9' }

// isLetter counts _ in, as runs take it wherever they take letters.
func isLetter(b byte) bool { return b >= 'a' && b <= 'z' || b >= 'A' && b <= 'Z' || b == '_' }
