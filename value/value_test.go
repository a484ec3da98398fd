package value_test

import (
	"math"
	"strconv"
	"strings"
	"testing"

	"proteus/api"
	"proteus/num"
	"proteus/text"
	"proteus/value"
)

func null() api.Value          { return api.Value{Kind: api.Null} }
func boolean(n int) api.Value  { return api.Value{Kind: api.Bool, N: n} }
func integer(n int) api.Value  { return api.Value{Kind: api.Int, N: n} }
func str(s string) api.Value   { return api.Value{Kind: api.Str, S: s} }
func object(n int) api.Value   { return api.Value{Kind: api.Obj, N: n} }
func function(n int) api.Value { return api.Value{Kind: api.Fun, N: n} }

// rightOnes are values that may be, of each Kind, those at the edges among them; no two are alike.
func rightOnes() []api.Value {
	l := []api.Value{null(), boolean(0), boolean(1)}
	for _, n := range []int{0, 1, -1, 2, 7, 10, -10, 42, 1 << 31, -1 << 31, num.Least, num.Least + 1, num.Most - 1, num.Most} {
		l = append(l, integer(n))
	}
	for _, s := range []string{
		"", "a", "A", "a ", " a", "null", "true", "false", "0", "1", "-1", "object", "function", "#1", "&0", "&1",
		`"`, `\`, `""`, `"a"`, `\"`, "\n", `\x0a`, `"\x0a"`, "\x00", "\x00\x00", "\xff", "é", "\xc3",
		strings.Repeat("a", 255), strings.Repeat("a", 256), strings.Repeat("\xff", 256),
	} {
		l = append(l, str(s))
	}
	for _, n := range []int{1, 2, 3, 200, 201, num.Most, num.Most + 1, math.MaxInt} {
		l = append(l, object(n), function(n))
	}
	return append(l, function(0))
}

// wrongOnes are values that may not be.
func wrongOnes() []api.Value {
	l := []api.Value{
		{Kind: api.Null, N: 1}, {Kind: api.Null, N: -1}, {Kind: api.Null, N: math.MaxInt}, {Kind: api.Null, S: "a"},
		boolean(2), boolean(-1), boolean(math.MinInt), {Kind: api.Bool, S: "\x00"}, {Kind: api.Bool, N: 1, S: "true"},
		integer(num.Least - 1), integer(num.Most + 1), integer(math.MinInt), integer(math.MaxInt), {Kind: api.Int, N: 1, S: "1"},
		str(strings.Repeat("a", 257)), str(strings.Repeat("\x00", 5000)),
		{Kind: api.Str, N: 1}, {Kind: api.Str, N: -1, S: "a"}, {Kind: api.Str, N: 1, S: strings.Repeat("a", 257)},
		object(0), object(-1), object(math.MinInt), {Kind: api.Obj, N: 1, S: "a"},
		function(-1), function(math.MinInt), {Kind: api.Fun, S: "a"}, {Kind: api.Fun, N: 1, S: "a"},
	}
	return append(l, strangers()...)
}

// strangers are of Kinds that there are not.
func strangers() []api.Value {
	var l []api.Value
	for _, kind := range []int{-1, -2, 6, 7, 255, 256, math.MinInt, math.MaxInt} {
		l = append(l, api.Value{Kind: kind}, api.Value{Kind: kind, N: 1}, api.Value{Kind: kind, N: -1}, api.Value{Kind: kind, S: "a"})
	}
	return l
}

func all() []api.Value { return append(rightOnes(), wrongOnes()...) }

// P3.1
func TestRight(t *testing.T) {
	for _, v := range rightOnes() {
		if !value.Right(v) {
			t.Errorf("%v is right", v)
		}
	}
	for _, v := range wrongOnes() {
		if value.Right(v) {
			t.Errorf("%v is not right", v)
		}
	}
}

// P3.1: each length of bytes, in each Kind.
func TestRightOfEachLength(t *testing.T) {
	for kind := -1; kind <= 6; kind++ {
		for n := range 300 {
			v := api.Value{Kind: kind, S: strings.Repeat("b", n)}
			bare := n == 0 && (kind == api.Null || kind == api.Bool || kind == api.Int || kind == api.Fun)
			if want := bare || kind == api.Str && n <= 256; value.Right(v) != want {
				t.Errorf("Kind %d of %d bytes: %v", kind, n, !want)
			}
		}
	}
}

// P3.1: each Kind at small numbers and around the edges.
func TestRightOfEachNumber(t *testing.T) {
	type span struct{ from, to int }
	may := map[int]span{
		0: {0, 0}, 1: {0, 1}, 2: {-1 << 62, 1<<62 - 1}, 3: {0, 0}, 4: {1, math.MaxInt}, 5: {0, math.MaxInt},
	}
	for kind := -3; kind <= 9; kind++ {
		for _, middle := range []int{0, -1 << 62, 1 << 62, math.MinInt + 3, math.MaxInt - 3} {
			for n := middle - 3; ; n++ {
				s, known := may[kind]
				if want := known && n >= s.from && n <= s.to; value.Right(api.Value{Kind: kind, N: n}) != want {
					t.Errorf("Kind %d, N %d: %v", kind, n, !want)
				}
				if n == middle+3 {
					break
				}
			}
		}
	}
}

// P3.1: no two of these are alike, but each to itself, right or not; a string of other memory is the same string.
func TestSame(t *testing.T) {
	l := all()
	for i, a := range l {
		for j, b := range l {
			b.S = strings.Clone(b.S)
			if got := value.Same(a, b); got != (i == j) {
				t.Errorf("Same(%v, %v) is %v", a, b, got)
			}
		}
	}
}

// P3.1: each of the three fields counts, whatever the Kind.
func TestSameOfEachField(t *testing.T) {
	for kind := -1; kind <= 6; kind++ {
		v := api.Value{Kind: kind, N: 1, S: "ab"}
		if !value.Same(v, api.Value{Kind: kind, N: 1, S: strings.Clone("ab")}) {
			t.Errorf("%v is not alike to itself", v)
		}
		for _, w := range []api.Value{
			{Kind: kind + 1, N: 1, S: "ab"}, {Kind: kind - 1, N: 1, S: "ab"}, {Kind: kind, N: 0, S: "ab"}, {Kind: kind, N: 2, S: "ab"},
			{Kind: kind, N: 1, S: "ac"}, {Kind: kind, N: 1, S: "a"}, {Kind: kind, N: 1, S: "abc"}, {Kind: kind, N: 1},
		} {
			if value.Same(v, w) || value.Same(w, v) {
				t.Errorf("%v and %v are alike", v, w)
			}
		}
	}
}

// P3.1: only these are false, whatever else they have.
func TestTruth(t *testing.T) {
	for _, v := range []api.Value{
		null(), {Kind: api.Null, N: 1}, {Kind: api.Null, N: -1}, {Kind: api.Null, S: "a"}, {Kind: api.Null, N: 1, S: "a"},
		boolean(0), {Kind: api.Bool, S: "true"},
	} {
		if value.Truth(v) {
			t.Errorf("%v is true", v)
		}
	}
	for _, v := range []api.Value{
		boolean(1), boolean(2), boolean(-1), {Kind: api.Bool, N: 1, S: "false"},
		integer(0), integer(1), integer(-1), integer(num.Least), integer(num.Most + 1),
		str(""), str("a"), str("false"), str(strings.Repeat("a", 257)),
		object(1), object(0), object(-1), function(0), function(1), function(-1),
		{Kind: -1}, {Kind: 6}, {Kind: 7, N: 1}, {Kind: math.MinInt}, {Kind: math.MaxInt, S: "a"},
	} {
		if !value.Truth(v) {
			t.Errorf("%v is false", v)
		}
	}
}

// P3.1
func TestIsKey(t *testing.T) {
	for _, v := range all() {
		if got := value.IsKey(v); got != (v.Kind == 3) {
			t.Errorf("IsKey(%v) is %v", v, got)
		}
	}
	for _, v := range []api.Value{str(""), str("a b"), str(strings.Repeat("a", 257)), {Kind: api.Str, N: 9, S: "a"}} {
		if !value.IsKey(v) {
			t.Errorf("%v is a key", v)
		}
	}
	for _, v := range []api.Value{null(), boolean(1), integer(3), object(3), function(3), {S: "a"}, {Kind: -1, S: "a"}, {Kind: 6, S: "a"}} {
		if value.IsKey(v) {
			t.Errorf("%v is no key", v)
		}
	}
}

// P3.2
func TestShowAndPrint(t *testing.T) {
	for _, c := range []struct {
		v           api.Value
		show, print string
	}{
		{null(), "null", "null"},
		{api.Value{Kind: api.Null, N: 1}, "null", "null"},
		{api.Value{Kind: api.Null, N: -7, S: "a"}, "null", "null"},
		{boolean(0), "false", "false"},
		{boolean(1), "true", "true"},
		{boolean(2), "true", "true"},
		{boolean(-1), "true", "true"},
		{api.Value{Kind: api.Bool, S: "true"}, "false", "false"},
		{integer(0), "0", "0"},
		{integer(-4), "-4", "-4"},
		{integer(1234567890), "1234567890", "1234567890"},
		{integer(num.Least), "-4611686018427387904", "-4611686018427387904"},
		{integer(num.Most), "4611686018427387903", "4611686018427387903"},
		{integer(num.Least - 1), "-4611686018427387905", "-4611686018427387905"},
		{integer(num.Most + 1), "4611686018427387904", "4611686018427387904"},
		{integer(math.MinInt), "-9223372036854775808", "-9223372036854775808"},
		{api.Value{Kind: api.Int, N: 5, S: "6"}, "5", "5"},
		{str(""), "", `""`},
		{str("a b"), "a b", `"a b"`},
		{str(`a"\`), `a"\`, `"a\"\\"`},
		{str("\x00\n\xff"), "\x00\n\xff", `"\x00\x0a\xff"`},
		{str("#1"), "#1", `"#1"`},
		{api.Value{Kind: api.Str, N: 7, S: "a"}, "a", `"a"`},
		{object(1), "object", "#1"},
		{object(3), "object", "#3"},
		{object(0), "object", "#0"},
		{object(-2), "object", "#-2"},
		{object(math.MaxInt), "object", "#9223372036854775807"},
		{api.Value{Kind: api.Obj, N: 1, S: "a"}, "object", "#1"},
		{function(0), "function", "&0"},
		{function(31), "function", "&31"},
		{function(-1), "function", "&-1"},
		{function(math.MinInt), "function", "&-9223372036854775808"},
		{api.Value{Kind: api.Fun, N: 1, S: "a"}, "function", "&1"},
	} {
		if got := value.Show(c.v); got != c.show {
			t.Errorf("Show(%v) is %q, not %q", c.v, got, c.show)
		}
		if got := value.Print(c.v); got != c.print {
			t.Errorf("Print(%v) is %q, not %q", c.v, got, c.print)
		}
	}
}

// P3.2: strings of 256 and of 257 bytes, and each byte.
func TestShowAndPrintOfStrings(t *testing.T) {
	l := []string{strings.Repeat("a", 256), strings.Repeat("a", 257), strings.Repeat("\"", 257), strings.Repeat("\x00", 5000)}
	for i := range 256 {
		l = append(l, string([]byte{byte(i)}))
	}
	for _, s := range l {
		if got := value.Show(str(s)); got != s {
			t.Errorf("Show of %q is %q", s, got)
		}
		if got := value.Print(str(s)); got != text.Quote(s) {
			t.Errorf("Print of %q is %q", s, got)
		}
	}
}

// P3.2: numbers of all sizes, in the three Kinds that show or print them.
func TestShowAndPrintOfNumbers(t *testing.T) {
	for bit := range 63 {
		n := 1 << bit
		for _, m := range []int{n, -n, n - 1, -n - 1, n / 3, -n / 7} {
			d := strconv.Itoa(m)
			if s, p := value.Show(integer(m)), value.Print(integer(m)); s != d || p != d {
				t.Errorf("Int %s is %s, %s", d, s, p)
			}
			if o, f := value.Print(object(m)), value.Print(function(m)); o != "#"+d || f != "&"+d {
				t.Errorf("%s as Obj is %s, as Fun %s", d, o, f)
			}
		}
	}
}

// P3.2: nothing of a Kind that there is not.
func TestShowAndPrintOfStrangers(t *testing.T) {
	for _, v := range strangers() {
		if s, p := value.Show(v), value.Print(v); s != "" || p != "" {
			t.Errorf("%v is %q, %q", v, s, p)
		}
	}
}

// P3.3
func TestSameJustIfPrintedAlike(t *testing.T) {
	l := rightOnes()
	for _, a := range l {
		for _, b := range l {
			b.S = strings.Clone(b.S)
			if same, alike := value.Same(a, b), value.Print(a) == value.Print(b); same != alike {
				t.Errorf("%v and %v: same %v, printed alike %v", a, b, same, alike)
			}
		}
	}
}
