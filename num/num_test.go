package num_test

import (
	"math"
	"math/big"
	"strconv"
	"strings"
	"testing"

	"proteus/api"
	"proteus/num"
)

// samples are the edges that the chapter names, ints far beyond them, and some numbers in between.
func samples() []int {
	l := []int{0}
	for _, n := range []int{
		1, 2, 3, 7, 9, 10, 11, 99, 1000003,
		1<<31 - 1, 1 << 31, 1<<32 - 1, 1 << 32, 1<<32 + 1, 3037000500,
		1<<61 - 1, 1 << 61, num.Most - 1, num.Most, num.Most + 1, num.Most + 2, math.MaxInt - 1, math.MaxInt,
	} {
		l = append(l, n, -n)
	}
	l = append(l, math.MinInt)
	n := uint64(1)
	for range 20 {
		n = n*6364136223846793005 + 1442695040888963407
		l = append(l, int(n), int(n)>>20)
	}
	return l
}

// wrapped is the word of the chapter, said in whole numbers of any size.
func wrapped(z *big.Int) int {
	turn := new(big.Int).Lsh(big.NewInt(1), 63)
	half := new(big.Int).Lsh(big.NewInt(1), 62)
	r := new(big.Int).Add(z, half)
	r.Mod(r, turn)
	r.Sub(r, half)
	return int(r.Int64())
}

func whole(n int) *big.Int { return big.NewInt(int64(n)) }

func TestBounds(t *testing.T) {
	if num.Least != -4611686018427387904 || num.Most != 4611686018427387903 {
		t.Error(num.Least, num.Most)
	}
}

// P1.1
func TestWrap(t *testing.T) {
	for n, want := range map[int]int{
		0: 0, 5: 5, -5: -5,
		num.Least: num.Least, num.Most: num.Most,
		num.Most + 1: num.Least, num.Least - 1: num.Most,
		math.MaxInt: -1, math.MinInt: 0, math.MinInt + 1: 1,
	} {
		if got := num.Wrap(n); got != want {
			t.Errorf("Wrap(%d) is %d, not %d", n, got, want)
		}
	}
	for _, n := range samples() {
		if got, want := num.Wrap(n), wrapped(whole(n)); got != want {
			t.Errorf("Wrap(%d) is %d, not %d", n, got, want)
		}
		if got, want := num.Neg(n), wrapped(new(big.Int).Neg(whole(n))); got != want {
			t.Errorf("Neg(%d) is %d, not %d", n, got, want)
		}
	}
}

// P1.1
func TestNeg(t *testing.T) {
	for n, want := range map[int]int{
		0: 0, 1: -1, -1: 1, num.Most: -num.Most, num.Least: num.Least,
		math.MinInt: 0, math.MaxInt: 1,
	} {
		if got := num.Neg(n); got != want {
			t.Errorf("Neg(%d) is %d, not %d", n, got, want)
		}
	}
}

// P1.1
func TestAddSubMul(t *testing.T) {
	for _, c := range []struct{ a, b, add, sub, mul int }{
		{2, 3, 5, -1, 6},
		{-2, 3, 1, -5, -6},
		{num.Most, 1, num.Least, num.Most - 1, num.Most},
		{num.Least, 1, num.Least + 1, num.Most, num.Least},
		{num.Least, -1, num.Most, num.Least + 1, num.Least},
		{num.Most, num.Most, -2, 0, 1},
		{num.Least, num.Least, 0, 0, 0},
		{1 << 32, 1 << 31, 6442450944, 2147483648, 0},
		{1 << 31, 1 << 31, 1 << 32, 0, num.Least},
		{math.MaxInt, math.MaxInt, -2, 0, 1},
		{math.MinInt, math.MinInt, 0, 0, 0},
		{math.MinInt, math.MaxInt, -1, 1, 0},
		{math.MinInt, 3, 3, -3, 0},
	} {
		if n := num.Add(c.a, c.b); n != c.add {
			t.Errorf("Add(%d, %d) is %d, not %d", c.a, c.b, n, c.add)
		}
		if n := num.Sub(c.a, c.b); n != c.sub {
			t.Errorf("Sub(%d, %d) is %d, not %d", c.a, c.b, n, c.sub)
		}
		if n := num.Mul(c.a, c.b); n != c.mul {
			t.Errorf("Mul(%d, %d) is %d, not %d", c.a, c.b, n, c.mul)
		}
	}
}

// P1.1
func TestAddSubMulAsWholeNumbers(t *testing.T) {
	for _, a := range samples() {
		for _, b := range samples() {
			x, y := whole(a), whole(b)
			if got, want := num.Add(a, b), wrapped(new(big.Int).Add(x, y)); got != want {
				t.Errorf("Add(%d, %d) is %d, not %d", a, b, got, want)
			}
			if got, want := num.Sub(a, b), wrapped(new(big.Int).Sub(x, y)); got != want {
				t.Errorf("Sub(%d, %d) is %d, not %d", a, b, got, want)
			}
			if got, want := num.Mul(a, b), wrapped(new(big.Int).Mul(x, y)); got != want {
				t.Errorf("Mul(%d, %d) is %d, not %d", a, b, got, want)
			}
		}
	}
}

// P1.2
func TestDivMod(t *testing.T) {
	for _, c := range []struct{ a, b, div, mod int }{
		{7, 2, 3, 1},
		{-7, 2, -3, -1},
		{7, -2, -3, 1},
		{-7, -2, 3, -1},
		{6, 3, 2, 0},
		{-6, 3, -2, 0},
		{0, 5, 0, 0},
		{1, 2, 0, 1},
		{-1, 2, 0, -1},
		{num.Least, -1, num.Least, 0},
		{num.Least, 1, num.Least, 0},
		{num.Most, -1, -num.Most, 0},
		{num.Most, num.Least, 0, num.Most},
		{num.Least, num.Most, -1, -1},
		{math.MinInt, -1, 0, 0},
		{math.MinInt, 1, 0, 0},
		{math.MinInt, 2, num.Least, 0},
		{math.MaxInt, 1, -1, 0},
		{num.Most + 1, math.MinInt, 0, num.Most + 1},
		{math.MaxInt, math.MinInt, 0, math.MaxInt},
		{num.Least - 1, math.MinInt, 0, num.Least - 1},
	} {
		if n, e := num.Div(c.a, c.b); n != c.div || e != api.OK {
			t.Errorf("Div(%d, %d) is %d, %d, not %d", c.a, c.b, n, e, c.div)
		}
		if n, e := num.Mod(c.a, c.b); n != c.mod || e != api.OK {
			t.Errorf("Mod(%d, %d) is %d, %d, not %d", c.a, c.b, n, e, c.mod)
		}
	}
}

// P1.2
func TestDivModByZero(t *testing.T) {
	for _, a := range samples() {
		if n, e := num.Div(a, 0); n != 0 || e != api.ErrZero {
			t.Errorf("Div(%d, 0) is %d, %d", a, n, e)
		}
		if n, e := num.Mod(a, 0); n != 0 || e != api.ErrZero {
			t.Errorf("Mod(%d, 0) is %d, %d", a, n, e)
		}
	}
}

// P1.2
func TestDivModAsWholeNumbers(t *testing.T) {
	for _, a := range samples() {
		for _, b := range samples() {
			if b == 0 {
				continue
			}
			q, r := new(big.Int).QuoRem(whole(a), whole(b), new(big.Int))
			if n, e := num.Div(a, b); n != wrapped(q) || e != api.OK {
				t.Errorf("Div(%d, %d) is %d, %d, not %d", a, b, n, e, wrapped(q))
			}
			n, e := num.Mod(a, b)
			if whole(n).Cmp(r) != 0 || e != api.OK {
				t.Errorf("Mod(%d, %d) is %d, %d, not %v", a, b, n, e, r)
			}
			if n != 0 && (n < 0) != (a < 0) {
				t.Errorf("Mod(%d, %d) is %d: not of the sign of %d", a, b, n, a)
			}
		}
	}
}

// P1.3
func TestDigits(t *testing.T) {
	for n, want := range map[int]string{
		0: "0", 7: "7", -7: "-7", 10: "10", -10: "-10", 1000: "1000", 41: "41",
		num.Most: "4611686018427387903", num.Least: "-4611686018427387904",
		num.Most + 1: "4611686018427387904",
		math.MaxInt:  "9223372036854775807", math.MinInt: "-9223372036854775808",
	} {
		if got := num.Digits(n); got != want {
			t.Errorf("Digits(%d) is %q", n, got)
		}
	}
	for _, n := range samples() {
		if got := num.Digits(n); got != strconv.Itoa(n) {
			t.Errorf("Digits(%d) is %q", n, got)
		}
	}
}

// P1.3
func TestRead(t *testing.T) {
	for s, want := range map[string]int{
		"0": 0, "9": 9, "10": 10, "41": 41, "007": 7, "000": 0,
		"4611686018427387902":                             num.Most - 1,
		"4611686018427387903":                             num.Most,
		"0004611686018427387903":                          num.Most,
		strings.Repeat("0", 5000):                         0,
		strings.Repeat("0", 5000) + "4611686018427387903": num.Most,
	} {
		if n, e := num.Read(s); n != want || e != api.OK {
			t.Errorf("Read(%q) is %d, %d, not %d", s, n, e, want)
		}
	}
}

// P1.3
func TestReadOfWrongTexts(t *testing.T) {
	for s, want := range map[string]api.Errno{
		"": api.ErrWord, " ": api.ErrWord, "-": api.ErrWord, "-1": api.ErrWord, "+1": api.ErrWord,
		" 1": api.ErrWord, "1 ": api.ErrWord, "1_0": api.ErrWord, "0x1": api.ErrWord, "1e3": api.ErrWord,
		"1/2": api.ErrWord, "1:": api.ErrWord, "a": api.ErrWord, "12\x00": api.ErrWord, "1\xff": api.ErrWord,
		"\u0661":                               api.ErrWord,
		"4611686018427387904x":                 api.ErrWord,
		strings.Repeat("9", 5000) + ".":        api.ErrWord,
		"4611686018427387904":                  api.ErrRange,
		"0004611686018427387904":               api.ErrRange,
		"4611686018427387910":                  api.ErrRange,
		"9223372036854775807":                  api.ErrRange,
		"9223372036854775808":                  api.ErrRange,
		"18446744073709551616":                 api.ErrRange,
		"18446744073709551617":                 api.ErrRange,
		"46116860184273879030":                 api.ErrRange,
		"1" + strings.Repeat("0", 64):          api.ErrRange,
		strings.Repeat("9", 5000):              api.ErrRange,
		"4611686018427387904" + "000000000000": api.ErrRange,
	} {
		if n, e := num.Read(s); n != 0 || e != want {
			t.Errorf("Read(%q) is %d, %d, not 0, %d", s, n, e, want)
		}
	}
}

// P1.3
func TestReadOfSingleBytes(t *testing.T) {
	for c := range 256 {
		n, e := num.Read(string([]byte{byte(c)}))
		digit := c >= '0' && c <= '9'
		if digit && (n != c-'0' || e != api.OK) || !digit && (n != 0 || e != api.ErrWord) {
			t.Errorf("Read of byte %d is %d, %d", c, n, e)
		}
	}
}

// P1.4
func TestOrderAndBrackets(t *testing.T) {
	for _, a := range samples() {
		for _, b := range samples() {
			if num.Add(a, b) != num.Add(b, a) || num.Mul(a, b) != num.Mul(b, a) {
				t.Errorf("%d and %d: the order is asked for", a, b)
			}
			for _, c := range samples() {
				if num.Add(num.Add(a, b), c) != num.Add(a, num.Add(b, c)) {
					t.Errorf("%d + %d + %d: brackets are asked for", a, b, c)
				}
				if num.Mul(num.Mul(a, b), c) != num.Mul(a, num.Mul(b, c)) {
					t.Errorf("%d * %d * %d: brackets are asked for", a, b, c)
				}
				if num.Mul(num.Add(a, b), c) != num.Add(num.Mul(a, c), num.Mul(b, c)) {
					t.Errorf("(%d + %d) * %d is not the sum of the products", a, b, c)
				}
			}
		}
	}
}

// P1.4
func TestWrappedParts(t *testing.T) {
	for _, a := range samples() {
		for _, b := range samples() {
			x, y := num.Wrap(a), num.Wrap(b)
			if num.Add(x, y) != num.Add(a, b) || num.Sub(x, y) != num.Sub(a, b) || num.Mul(x, y) != num.Mul(a, b) {
				t.Errorf("%d and %d, wrapped first, come to something else", a, b)
			}
			if num.Sub(a, b) != num.Add(a, num.Neg(b)) {
				t.Errorf("Sub(%d, %d) is not Add of Neg", a, b)
			}
		}
	}
}

// P1.4
func TestDivAndModTogether(t *testing.T) {
	for _, a := range samples() {
		for _, b := range samples() {
			if b == 0 {
				continue
			}
			q, _ := num.Div(a, b)
			r, _ := num.Mod(a, b)
			if n := num.Add(num.Mul(q, b), r); n != num.Wrap(a) {
				t.Errorf("%d by %d: %d times it and %d are %d", a, b, q, r, n)
			}
		}
	}
}

// P1.4
func TestReadOfDigits(t *testing.T) {
	for _, n := range samples() {
		if n < 0 || n > num.Most {
			continue
		}
		if m, e := num.Read(num.Digits(n)); m != n || e != api.OK {
			t.Errorf("Read(Digits(%d)) is %d, %d", n, m, e)
		}
	}
}
