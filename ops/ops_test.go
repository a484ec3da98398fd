package ops_test

import (
	"math"
	"math/big"
	"strconv"
	"strings"
	"testing"

	"proteus/api"
	"proteus/num"
	"proteus/ops"
	"proteus/value"
)

func null() api.Value          { return api.Value{Kind: api.Null} }
func boolean(n int) api.Value  { return api.Value{Kind: api.Bool, N: n} }
func integer(n int) api.Value  { return api.Value{Kind: api.Int, N: n} }
func str(s string) api.Value   { return api.Value{Kind: api.Str, S: s} }
func object(n int) api.Value   { return api.Value{Kind: api.Obj, N: n} }
func function(n int) api.Value { return api.Value{Kind: api.Fun, N: n} }

func yesNo(yes bool) api.Value {
	if yes {
		return boolean(1)
	}
	return boolean(0)
}

// rightOnes are values that may be, of each Kind, those at the edges among them.
func rightOnes() []api.Value {
	l := []api.Value{null(), boolean(0), boolean(1), object(1), object(2), object(math.MaxInt), function(0), function(1), function(2)}
	for _, n := range []int{0, 1, -1, 2, -2, 3, 7, -7, 1 << 31, -1 << 31, 1 << 40, num.Least, num.Least + 1, num.Most - 1, num.Most} {
		l = append(l, integer(n))
	}
	for _, s := range []string{
		"", "a", "b", "A", "aa", "ab", "abc", "b1", "0", "1", "-1", "10", "9", "null", "\x00", "a\x00", "\x7f", "\x80", "\xff", "é",
		strings.Repeat("a", 128), strings.Repeat("a", 129), strings.Repeat("a", 255), strings.Repeat("a", 256),
	} {
		l = append(l, str(s))
	}
	return l
}

// wrongOnes are values that may not be, those of Kinds that there are not among them.
func wrongOnes() []api.Value {
	l := []api.Value{
		{Kind: api.Null, N: 1}, {Kind: api.Null, S: "a"}, boolean(2), boolean(-1), {Kind: api.Bool, S: "a"},
		integer(num.Least - 1), integer(num.Most + 1), integer(math.MinInt), integer(math.MaxInt), {Kind: api.Int, N: 1, S: "a"},
		str(strings.Repeat("a", 257)), {Kind: api.Str, N: 1}, {Kind: api.Str, N: -1, S: "a"},
		object(0), object(-1), {Kind: api.Obj, N: 1, S: "a"}, function(-1), {Kind: api.Fun, N: 1, S: "a"},
	}
	for _, kind := range []int{-1, -2, 6, 7, 255, 258, 259, math.MinInt, math.MaxInt} {
		l = append(l, api.Value{Kind: kind}, api.Value{Kind: kind, N: 1}, api.Value{Kind: kind, S: "a"})
	}
	return l
}

func all() []api.Value { return append(rightOnes(), wrongOnes()...) }

// noSigns are numbers that are signs of no call, and such as would be if only some of their bits were asked.
func noSigns() []int {
	return []int{0, -1, -2, -11, 12, 13, 14, 255, 256, 257, 266, 1<<32 + 1, 1<<32 + 10, math.MinInt, math.MinInt + 1, math.MaxInt}
}

func refused(t *testing.T, what string, v api.Value, e, want api.Errno) {
	t.Helper()
	if v != (api.Value{}) || e != want {
		t.Errorf("%s is %v, %d, not nothing and %d", what, v, e, want)
	}
}

func answered(t *testing.T, what string, v api.Value, e api.Errno, want api.Value) {
	t.Helper()
	if v != want || e != api.OK {
		t.Errorf("%s is %v, %d, not %v", what, v, e, want)
	}
}

func name(op int, l ...api.Value) string {
	s := "sign " + strconv.Itoa(op) + " of"
	for _, v := range l {
		show := v.S
		if len(show) > 12 {
			show = show[:12] + ".."
		}
		s += " {" + strconv.Itoa(v.Kind) + " " + strconv.Itoa(v.N) + " " + strconv.Quote(show) + "}"
	}
	return s
}

// P4.1
func TestNeg(t *testing.T) {
	for _, c := range []struct{ n, want int }{
		{0, 0}, {1, -1}, {-1, 1}, {42, -42}, {-1 << 40, 1 << 40},
		{num.Most, num.Least + 1}, {num.Least + 1, num.Most}, {num.Least, num.Least},
		{num.Most + 1, num.Least}, {num.Least - 1, num.Least + 1}, {math.MinInt, 0}, {math.MaxInt, 1},
	} {
		v, e := ops.Un(api.Neg, integer(c.n))
		answered(t, name(api.Neg, integer(c.n)), v, e, integer(c.want))
	}
	v, e := ops.Un(api.Neg, api.Value{Kind: api.Int, N: 3, S: "a"})
	answered(t, "Neg of an Int that has bytes", v, e, integer(-3))
}

// P4.1: each Kind but Int.
func TestNegOfNoInt(t *testing.T) {
	for _, v := range all() {
		if v.Kind == api.Int {
			continue
		}
		w, e := ops.Un(api.Neg, v)
		refused(t, name(api.Neg, v), w, e, api.ErrType)
	}
}

// P4.1
func TestNot(t *testing.T) {
	for _, v := range []api.Value{null(), boolean(0), {Kind: api.Null, N: 1}, {Kind: api.Bool, S: "a"}} {
		w, e := ops.Un(api.Not, v)
		answered(t, name(api.Not, v), w, e, api.Value{Kind: 1, N: 1})
	}
	for _, v := range []api.Value{
		boolean(1), boolean(2), boolean(-1), integer(0), integer(1), integer(num.Least), integer(math.MaxInt),
		str(""), str("false"), object(1), object(0), function(0), function(-1), {Kind: -1}, {Kind: 6}, {Kind: math.MinInt, S: "a"},
	} {
		w, e := ops.Un(api.Not, v)
		answered(t, name(api.Not, v), w, e, api.Value{Kind: 1, N: 0})
	}
	for _, v := range all() {
		w, e := ops.Un(api.Not, v)
		answered(t, name(api.Not, v), w, e, yesNo(!value.Truth(v)))
	}
}

// P4.1: the sign counts ahead of the value.
func TestUnOfNoSign(t *testing.T) {
	for _, op := range append(noSigns(), 3, 4, 10, 11) {
		for _, v := range all() {
			w, e := ops.Un(op, v)
			refused(t, name(op, v), w, e, api.ErrArg)
		}
	}
}

// P4.2
func TestReckon(t *testing.T) {
	least, most := num.Least, num.Most
	for _, c := range []struct{ op, a, b, want int }{
		{api.Add, 2, 3, 5}, {api.Add, -2, 2, 0}, {api.Add, most, 1, least}, {api.Add, 1, most, least}, {api.Add, least, -1, most},
		{api.Add, most, most, -2}, {api.Add, least, least, 0}, {api.Add, least, most, -1}, {api.Add, most, 0, most}, {api.Add, least, 0, least},
		{api.Sub, 2, 3, -1}, {api.Sub, 3, 2, 1}, {api.Sub, least, 1, most}, {api.Sub, most, -1, least}, {api.Sub, 0, least, least},
		{api.Sub, least, most, 1}, {api.Sub, most, least, -1}, {api.Sub, least, least, 0}, {api.Sub, 0, most, least + 1},
		{api.Mul, 6, 7, 42}, {api.Mul, -6, 7, -42}, {api.Mul, most, 2, -2}, {api.Mul, least, 2, 0}, {api.Mul, least, -1, least},
		{api.Mul, most, -1, least + 1}, {api.Mul, most, most, 1}, {api.Mul, least, least, 0}, {api.Mul, least, most, least}, {api.Mul, 1 << 31, 1 << 31, least},
		{api.Div, 7, 2, 3}, {api.Div, -7, 2, -3}, {api.Div, 7, -2, -3}, {api.Div, -7, -2, 3}, {api.Div, 0, 5, 0}, {api.Div, 2, 7, 0},
		{api.Div, least, -1, least}, {api.Div, most, -1, least + 1}, {api.Div, least, 1, least}, {api.Div, least, most, -1}, {api.Div, most, least, 0},
		{api.Mod, 7, 2, 1}, {api.Mod, -7, 2, -1}, {api.Mod, 7, -2, 1}, {api.Mod, -7, -2, -1}, {api.Mod, 0, 5, 0}, {api.Mod, 2, 7, 2},
		{api.Mod, least, -1, 0}, {api.Mod, least, most, -1}, {api.Mod, most, least, most}, {api.Mod, least, 10, -4},
	} {
		v, e := ops.Bin(c.op, integer(c.a), integer(c.b), 0)
		answered(t, name(c.op, integer(c.a), integer(c.b)), v, e, integer(c.want))
	}
}

// ints are those of the values that are Ints.
func ints(l []api.Value) []api.Value {
	var some []api.Value
	for _, v := range l {
		if v.Kind == api.Int {
			some = append(some, v)
		}
	}
	return some
}

// P4.2: each pair of the Ints that may be, held against numbers without bounds.
func TestReckonOfEachPair(t *testing.T) {
	round := new(big.Int).Lsh(big.NewInt(1), 63)
	for _, a := range ints(rightOnes()) {
		for _, b := range ints(rightOnes()) {
			x, y := big.NewInt(int64(a.N)), big.NewInt(int64(b.N))
			for op, work := range map[int]func(z, x, y *big.Int) *big.Int{
				api.Add: (*big.Int).Add, api.Sub: (*big.Int).Sub, api.Mul: (*big.Int).Mul, api.Div: (*big.Int).Quo, api.Mod: (*big.Int).Rem,
			} {
				if b.N == 0 && (op == api.Div || op == api.Mod) {
					continue
				}
				z := work(new(big.Int), x, y)
				z.Mod(z, round)
				if z.Cmp(big.NewInt(num.Most)) > 0 {
					z.Sub(z, round)
				}
				v, e := ops.Bin(op, a, b, 256)
				answered(t, name(op, a, b), v, e, integer(int(z.Int64())))
			}
		}
	}
}

// P4.2: Ints beyond Least and Most, and such as have bytes, are answered as num answers their numbers.
func TestReckonOfWrongInts(t *testing.T) {
	l := ints(all())
	for _, a := range l {
		for _, b := range l {
			v, e := ops.Bin(api.Add, a, b, 0)
			answered(t, name(api.Add, a, b), v, e, integer(num.Add(a.N, b.N)))
			v, e = ops.Bin(api.Sub, a, b, 0)
			answered(t, name(api.Sub, a, b), v, e, integer(num.Sub(a.N, b.N)))
			v, e = ops.Bin(api.Mul, a, b, 0)
			answered(t, name(api.Mul, a, b), v, e, integer(num.Mul(a.N, b.N)))
			if b.N == 0 {
				continue
			}
			n, _ := num.Div(a.N, b.N)
			v, e = ops.Bin(api.Div, a, b, 0)
			answered(t, name(api.Div, a, b), v, e, integer(n))
			n, _ = num.Mod(a.N, b.N)
			v, e = ops.Bin(api.Mod, a, b, 0)
			answered(t, name(api.Mod, a, b), v, e, integer(n))
		}
	}
}

// P4.2: a Div and a Mod by 0; a dividend that is no Int counts for more.
func TestByZero(t *testing.T) {
	for _, op := range []int{api.Div, api.Mod} {
		for _, v := range all() {
			want := api.ErrType
			if v.Kind == api.Int {
				want = api.ErrZero
			}
			w, e := ops.Bin(op, v, integer(0), 256)
			refused(t, name(op, v, integer(0)), w, e, want)
		}
	}
}

// P4.2
func TestAddOfStrs(t *testing.T) {
	for _, c := range []struct {
		a, b string
		most int
		want string
	}{
		{"", "", 0, ""}, {"", "", 1, ""}, {"a", "", 1, "a"}, {"", "a", 1, "a"}, {"a", "b", 2, "ab"}, {"b", "a", 2, "ba"}, {"ab", "c", 3, "abc"},
		{"\x00", "\xff", 2, "\x00\xff"}, {"\xc3", "\xa9", 2, "é"}, {"1", "2", 256, "12"}, {"a", "b", math.MaxInt, "ab"},
		{strings.Repeat("a", 128), strings.Repeat("b", 128), 256, strings.Repeat("a", 128) + strings.Repeat("b", 128)},
		{strings.Repeat("a", 256), "", 256, strings.Repeat("a", 256)}, {"", strings.Repeat("a", 256), 256, strings.Repeat("a", 256)},
		{strings.Repeat("a", 256), "b", 257, strings.Repeat("a", 256) + "b"}, {strings.Repeat("a", 3000), "b", 3001, strings.Repeat("a", 3000) + "b"},
	} {
		v, e := ops.Bin(api.Add, str(c.a), str(c.b), c.most)
		answered(t, name(api.Add, str(c.a), str(c.b)), v, e, str(c.want))
	}
	v, e := ops.Bin(api.Add, api.Value{Kind: api.Str, N: 5, S: "a"}, api.Value{Kind: api.Str, N: 6, S: "b"}, 2)
	answered(t, "Add of Strs that have numbers", v, e, str("ab"))
}

// P4.2: just most bytes, and one more; most 0 and less.
func TestAddOfStrsThatAreTooLong(t *testing.T) {
	for i := range 12 {
		for j := range 12 {
			a, b := str("abcdefghijkl"[:i]), str("mnopqrstuvwx"[:j])
			for _, most := range []int{math.MinInt, -256, -2, -1, 0, 1, 2, 3, i + j - 1, i + j, i + j + 1, 256, math.MaxInt} {
				v, e := ops.Bin(api.Add, a, b, most)
				if i+j > most {
					refused(t, name(api.Add, a, b)+" at most "+strconv.Itoa(most), v, e, api.LimStr)
				} else {
					answered(t, name(api.Add, a, b)+" at most "+strconv.Itoa(most), v, e, str(a.S+b.S))
				}
			}
		}
	}
	long := strings.Repeat("a", 256)
	for _, c := range []struct {
		a, b string
		most int
	}{{long, "a", 256}, {"a", long, 256}, {long, long, 511}, {long, "", 255}, {"", long, 255}, {"", "", -1}, {"", "", math.MinInt}} {
		v, e := ops.Bin(api.Add, str(c.a), str(c.b), c.most)
		refused(t, name(api.Add, str(c.a), str(c.b)), v, e, api.LimStr)
	}
}

// P4.2: most is for Strs alone.
func TestMostIsForStrsAlone(t *testing.T) {
	for _, most := range []int{math.MinInt, -1, 0, 1, 256, math.MaxInt} {
		for op := api.Add; op <= api.Ne; op++ {
			for _, p := range [][2]api.Value{{integer(12345), integer(11)}, {str("abc"), str("abd")}, {str("abc"), integer(1)}, {null(), null()}} {
				if op == api.Add && p[0].Kind == api.Str && p[1].Kind == api.Str {
					continue
				}
				v, e := ops.Bin(op, p[0], p[1], most)
				w, f := ops.Bin(op, p[0], p[1], 6)
				if v != w || e != f {
					t.Errorf("%s hangs on most %d", name(op, p[0], p[1]), most)
				}
			}
		}
	}
}

// P4.2
func TestOrder(t *testing.T) {
	least, most := num.Least, num.Most
	for _, c := range []struct {
		a, b api.Value
		is   int
	}{
		{integer(2), integer(3), -1}, {integer(3), integer(2), 1}, {integer(2), integer(2), 0}, {integer(-1), integer(0), -1}, {integer(-2), integer(-1), -1},
		{integer(9), integer(10), -1}, {integer(least), integer(most), -1}, {integer(most), integer(least), 1}, {integer(least), integer(least), 0},
		{integer(most), integer(most), 0}, {integer(math.MinInt), integer(least), -1}, {integer(math.MaxInt), integer(math.MinInt), 1},
		{api.Value{Kind: api.Int, N: 1, S: "b"}, api.Value{Kind: api.Int, N: 1, S: "a"}, 0}, {api.Value{Kind: api.Int, N: 1, S: "b"}, api.Value{Kind: api.Int, N: 2, S: "a"}, -1},
		{str(""), str(""), 0}, {str(""), str("a"), -1}, {str("a"), str(""), 1}, {str(""), str("\x00"), -1}, {str("a"), str("a"), 0},
		{str("a"), str("ab"), -1}, {str("ab"), str("a"), 1}, {str("ab"), str("b"), -1}, {str("b"), str("ab"), 1}, {str("a"), str("a\x00"), -1},
		{str("abc"), str("abd"), -1}, {str("abz"), str("aca"), -1}, {str("Z"), str("a"), -1}, {str("10"), str("9"), -1}, {str("\x7f"), str("\x80"), -1},
		{str("\xff"), str("a"), 1}, {str("\xff"), str("\x00\x00"), 1}, {str("é"), str("z"), 1}, {str("-1"), str("0"), -1},
		{str(strings.Repeat("a", 256)), str(strings.Repeat("a", 257)), -1}, {str(strings.Repeat("a", 256)), str(strings.Repeat("a", 255) + "b"), -1},
		{api.Value{Kind: api.Str, N: 2, S: "a"}, api.Value{Kind: api.Str, N: 1, S: "a"}, 0}, {api.Value{Kind: api.Str, N: 2, S: "a"}, api.Value{Kind: api.Str, N: 1, S: "b"}, -1},
	} {
		for op, want := range map[int]bool{api.Lt: c.is < 0, api.Le: c.is <= 0, api.Gt: c.is > 0, api.Ge: c.is >= 0} {
			v, e := ops.Bin(op, c.a, c.b, 0)
			answered(t, name(op, c.a, c.b), v, e, yesNo(want))
		}
	}
}

// ahead tells which of two strings is the lesser, byte by byte.
func ahead(a, b string) int {
	for i := range min(len(a), len(b)) {
		if a[i] != b[i] {
			return int(a[i]) - int(b[i])
		}
	}
	return len(a) - len(b)
}

// P4.2: each pair of strings of at most three bytes, of few bytes.
func TestOrderOfShortStrings(t *testing.T) {
	l := []string{""}
	for from := 0; len(l) < 1+5+25+125; from++ {
		for _, c := range []string{"\x00", "a", "b", "\x80", "\xff"} {
			l = append(l, l[from]+c)
		}
	}
	for _, a := range l {
		for _, b := range l {
			is := ahead(a, b)
			for op, want := range map[int]bool{api.Lt: is < 0, api.Le: is <= 0, api.Gt: is > 0, api.Ge: is >= 0} {
				v, e := ops.Bin(op, str(a), str(b), 256)
				answered(t, name(op, str(a), str(b)), v, e, yesNo(want))
			}
		}
	}
}

// P4.2: each Kind beside each other one, under each sign but Eq and Ne; and Kinds that have no such sign beside themselves.
func TestBinOfOtherKinds(t *testing.T) {
	l := all()
	for op := api.Add; op < api.Eq; op++ {
		for _, a := range l {
			for _, b := range l {
				two := a.Kind == b.Kind
				if two && (a.Kind == api.Int || a.Kind == api.Str && (op == api.Add || op >= api.Lt)) {
					continue
				}
				v, e := ops.Bin(op, a, b, 256)
				refused(t, name(op, a, b), v, e, api.ErrType)
			}
		}
	}
	v, e := ops.Bin(api.Add, str(strings.Repeat("a", 257)), integer(1), -1)
	refused(t, "Add of a Str that is too long, and an Int", v, e, api.ErrType)
}

// P4.2
func TestAlike(t *testing.T) {
	l := all()
	for i, a := range l {
		for j, b := range l {
			b.S = strings.Clone(b.S)
			v, e := ops.Bin(api.Eq, a, b, 0)
			answered(t, name(api.Eq, a, b), v, e, yesNo(i == j))
			v, e = ops.Bin(api.Ne, a, b, 0)
			answered(t, name(api.Ne, a, b), v, e, yesNo(i != j))
		}
	}
}

// P4.2: the sign counts ahead of the values.
func TestBinOfNoSign(t *testing.T) {
	l := []api.Value{null(), boolean(1), integer(1), integer(0), str("a"), str(strings.Repeat("a", 257)), object(1), function(0), {Kind: -1}, {Kind: 6, S: "a"}}
	for _, op := range noSigns() {
		for _, a := range l {
			for _, b := range l {
				v, e := ops.Bin(op, a, b, 0)
				refused(t, name(op, a, b), v, e, api.ErrArg)
			}
		}
	}
}

// P4.3
func TestLen(t *testing.T) {
	for _, c := range []struct {
		s string
		n int
	}{{"", 0}, {"a", 1}, {"abc", 3}, {"é", 2}, {"\x00", 1}, {"\xff\xff", 2}, {"\u20ac", 3}} {
		v, e := ops.Len(str(c.s))
		answered(t, "Len of "+strconv.Quote(c.s), v, e, integer(c.n))
	}
	for n := range 300 {
		v, e := ops.Len(api.Value{Kind: api.Str, N: 7, S: strings.Repeat("a", n)})
		answered(t, "Len of "+strconv.Itoa(n)+" bytes", v, e, integer(n))
	}
	for _, v := range all() {
		if v.Kind == api.Str {
			continue
		}
		w, e := ops.Len(v)
		refused(t, "Len, "+name(0, v), w, e, api.ErrType)
	}
}

// P4.3: of values as they are shown, at just so many bytes and at one less.
func TestText(t *testing.T) {
	for _, c := range []struct {
		v    api.Value
		want string
	}{
		{null(), "null"}, {boolean(0), "false"}, {boolean(1), "true"}, {boolean(2), "true"}, {integer(0), "0"}, {integer(-12), "-12"},
		{integer(num.Least), "-4611686018427387904"}, {integer(num.Most), "4611686018427387903"}, {integer(math.MinInt), "-9223372036854775808"},
		{str(""), ""}, {str("a"), "a"}, {str(`"`), `"`}, {str("\xff\x00"), "\xff\x00"}, {api.Value{Kind: api.Str, N: 3, S: "ab"}, "ab"},
		{str(strings.Repeat("a", 256)), strings.Repeat("a", 256)}, {str(strings.Repeat("a", 257)), strings.Repeat("a", 257)},
		{object(1), "object"}, {object(77), "object"}, {object(0), "object"}, {function(0), "function"}, {function(9), "function"},
		{api.Value{Kind: -1}, ""}, {api.Value{Kind: 6, N: 1}, ""}, {api.Value{Kind: 7, S: "a"}, ""}, {api.Value{Kind: math.MinInt, S: "a"}, ""},
	} {
		n := len(c.want)
		for _, most := range []int{n, n + 1, n + 1000, math.MaxInt} {
			v, e := ops.Text(c.v, most)
			answered(t, "Text at most "+strconv.Itoa(most)+", "+name(0, c.v), v, e, str(c.want))
		}
		for _, most := range []int{n - 1, n - 2, n/2 - 1, -1, -1000, math.MinInt} {
			v, e := ops.Text(c.v, most)
			refused(t, "Text at most "+strconv.Itoa(most)+", "+name(0, c.v), v, e, api.LimStr)
		}
	}
}

// P4.3: most 0 leaves what is shown by nothing.
func TestTextOfNothing(t *testing.T) {
	for _, v := range all() {
		w, e := ops.Text(v, 0)
		if value.Show(v) == "" {
			answered(t, "Text at most 0, "+name(0, v), w, e, str(""))
		} else {
			refused(t, "Text at most 0, "+name(0, v), w, e, api.LimStr)
		}
	}
}

// P4.4
func TestSwap(t *testing.T) {
	for op, want := range map[int]int{
		api.Add: 0, api.Sub: 0, api.Mul: api.Mul, api.Div: 0, api.Mod: 0,
		api.Lt: api.Gt, api.Le: api.Ge, api.Gt: api.Lt, api.Ge: api.Le, api.Eq: api.Eq, api.Ne: api.Ne,
	} {
		if got := ops.Swap(op); got != want {
			t.Errorf("Swap(%d) is %d, not %d", op, got, want)
		}
	}
	for _, op := range noSigns() {
		if got := ops.Swap(op); got != 0 {
			t.Errorf("Swap(%d) is %d", op, got)
		}
	}
}

// P4.4: two values the other way round, under the swapped sign, come to the same.
func TestSwapSaysTheSame(t *testing.T) {
	l := all()
	for op := api.Add; op <= api.Ne; op++ {
		other := ops.Swap(op)
		if other == 0 {
			continue
		}
		for _, a := range l {
			for _, b := range l {
				v, e := ops.Bin(op, a, b, 256)
				w, f := ops.Bin(other, b, a, 256)
				if v != w || e != f {
					t.Errorf("%s is %v, %d, swapped %v, %d", name(op, a, b), v, e, w, f)
				}
			}
		}
	}
}

// P4.4
func TestPure(t *testing.T) {
	kinds := []int{math.MinInt, -2, -1, api.Null, api.Bool, api.Int, api.Str, api.Obj, api.Fun, 6, 7, 258, 259, math.MaxInt}
	for _, a := range kinds {
		for _, b := range kinds {
			for op, want := range map[int]bool{
				api.Add: a == 2 && b == 2, api.Sub: a == 2 && b == 2, api.Mul: a == 2 && b == 2, api.Div: false, api.Mod: false,
				api.Lt: a == 2 && b == 2 || a == 3 && b == 3, api.Le: a == 2 && b == 2 || a == 3 && b == 3,
				api.Gt: a == 2 && b == 2 || a == 3 && b == 3, api.Ge: a == 2 && b == 2 || a == 3 && b == 3,
				api.Eq: true, api.Ne: true,
			} {
				if got := ops.Pure(op, a, b); got != want {
					t.Errorf("Pure(%d, %d, %d) is %v", op, a, b, got)
				}
			}
			for _, op := range noSigns() {
				if ops.Pure(op, a, b) {
					t.Errorf("Pure(%d, %d, %d) is true", op, a, b)
				}
			}
		}
	}
}

// P4.4: Pure says just where no two of these values have an error; at most -1 a sum of Strs always has one.
func TestPureJustIfNoError(t *testing.T) {
	l := all()
	type kinds struct{ op, a, b int }
	failed := map[kinds]int{}
	for op := api.Add; op <= api.Ne; op++ {
		for _, a := range l {
			for _, b := range l {
				if _, e := ops.Bin(op, a, b, -1); e != api.OK {
					failed[kinds{op, a.Kind, b.Kind}]++
				}
			}
		}
		for _, a := range l {
			for _, b := range l {
				if some := failed[kinds{op, a.Kind, b.Kind}] > 0; ops.Pure(op, a.Kind, b.Kind) == some {
					t.Errorf("Pure(%d, %d, %d) is %v", op, a.Kind, b.Kind, some)
				}
			}
		}
	}
}

// P4.5
func TestRightOfRight(t *testing.T) {
	l := rightOnes()
	check := func(what string, v api.Value, e api.Errno) {
		if !value.Right(v) {
			t.Errorf("%s is %v, %d, which is not right", what, v, e)
		}
	}
	for _, most := range []int{math.MinInt, -1, 0, 1, 20, 255, api.MaxStr} {
		for _, a := range l {
			for op := -1; op <= 12; op++ {
				v, e := ops.Un(op, a)
				check(name(op, a), v, e)
				for _, b := range l {
					v, e := ops.Bin(op, a, b, most)
					check(name(op, a, b), v, e)
				}
			}
			v, e := ops.Len(a)
			check("Len, "+name(0, a), v, e)
			v, e = ops.Text(a, most)
			check("Text, "+name(0, a), v, e)
		}
	}
}

// Chapter 4's examples.
func TestExamples(t *testing.T) {
	v, e := ops.Bin(api.Add, str("a"), integer(1), api.MaxStr)
	refused(t, "a + 1", v, e, api.ErrType)
	v, e = ops.Bin(api.Lt, integer(2), integer(3), api.MaxStr)
	answered(t, "2 < 3", v, e, boolean(1))
}
