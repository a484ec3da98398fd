// Package num is layer 1: whole numbers of 63 bits that wrap around. See shared/doc/01-num.md.
package num

import "proteus/api"

// The least and the greatest number.
const (
	Least = -1 << 62
	Most  = 1<<62 - 1
)

// An int has 64 bits and drops what is above them, which is a multiple of 2^63:
// so sums, differences and products of ints may be worked out as ints, and wrapped once, at the end.

// Wrap is the number that wraps of n: the shifts put bit 62 in the place of the sign.
func Wrap(n int) int { return n << 1 >> 1 }

// Add is the sum, wrapped.
func Add(a, b int) int { return Wrap(a + b) }

// Sub is the difference, wrapped.
func Sub(a, b int) int { return Wrap(a - b) }

// Mul is the product, wrapped.
func Mul(a, b int) int { return Wrap(a * b) }

// Neg is 0 - n, wrapped.
func Neg(n int) int { return Wrap(-n) }

// Div is a by b, cut off towards 0, wrapped.
func Div(a, b int) (int, api.Errno) {
	if b == 0 {
		return 0, api.ErrZero
	}
	return Wrap(a / b), api.OK
}

// Mod is what Div cuts off. It is not wrapped, as it has a's sign, also where a is an int beyond Least and Most.
func Mod(a, b int) (int, api.Errno) {
	if b == 0 {
		return 0, api.ErrZero
	}
	return a % b, api.OK
}

// longest is how many bytes the longest int has: 19 digits, and a sign.
const longest = 20

// Digits is any int in decimal digits, a - ahead of one below 0.
func Digits(n int) string {
	var room [longest]byte
	at := longest
	for rest := size(n); rest > 0 || at == longest; rest /= 10 {
		at--
		room[at] = byte('0' + rest%10)
	}
	if n < 0 {
		at--
		room[at] = '-'
	}
	return string(room[at:longest:longest])
}

// size is n without its sign; it is unsigned, as the least int has no counterpart among ints.
func size(n int) uint {
	if n < 0 {
		return -uint(n)
	}
	return uint(n)
}

// Read is the number that a text of digits stands for.
func Read(s string) (int, api.Errno) {
	if s == "" {
		return 0, api.ErrWord
	}
	take := reading()
	n, e := 0, api.OK
	for i := 0; i < len(s); i++ {
		if s[i] < '0' || s[i] > '9' {
			return 0, api.ErrWord
		}
		n, e = take(int(s[i] - '0'))
	}
	return n, e
}

// reading gives a function that takes one digit at a time and answers the number so far.
// Once that was above Most it stays so; the digits behind it are taken all the same, as a byte that is no digit counts for more.
func reading() func(digit int) (int, api.Errno) {
	n, above := 0, false
	return func(digit int) (int, api.Errno) {
		if above || n > (Most-digit)/10 {
			above = true
			return 0, api.ErrRange
		}
		n = 10*n + digit
		return n, api.OK
	}
}
