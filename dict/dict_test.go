package dict_test

import (
	"math"
	"slices"
	"strconv"
	"strings"
	"testing"

	"proteus/api"
	"proteus/dict"
)

// filled is a Dict of names, set in that order, with values 0, 1 and so on.
func filled(names ...string) (*dict.Dict, pairs) {
	d, m := dict.New(), pairs{}
	for i, s := range names {
		d.Set(s, integer(i))
		m = append(m, pair{s, integer(i)})
	}
	return d, m
}

// P9.1
func TestNew(t *testing.T) {
	d := dict.New()
	hold(t, d, nil, "", "a", "b")
	if d.Delete("a") || d.Delete("") {
		t.Error("something is deleted where nothing is")
	}
	hold(t, d, nil, "", "a")
}

// P9.1, P9.4: one name among others, through all that can become of it.
func TestLifeOfAName(t *testing.T) {
	d := dict.New()
	if !d.Set("a", integer(1)) || !d.Set("b", integer(2)) || !d.Set("c", integer(3)) {
		t.Error("a new name is none")
	}
	hold(t, d, pairs{{"a", integer(1)}, {"b", integer(2)}, {"c", integer(3)}}, "d")
	if d.Set("b", integer(4)) {
		t.Error("b is new again")
	}
	hold(t, d, pairs{{"a", integer(1)}, {"b", integer(4)}, {"c", integer(3)}}, "d")
	if d.Set("b", integer(4)) {
		t.Error("b is new with the value that it has")
	}
	hold(t, d, pairs{{"a", integer(1)}, {"b", integer(4)}, {"c", integer(3)}}, "d")
	if !d.Delete("b") {
		t.Error("b was not there")
	}
	hold(t, d, pairs{{"a", integer(1)}, {"c", integer(3)}}, "b", "d")
	if d.Delete("b") {
		t.Error("b was there yet")
	}
	hold(t, d, pairs{{"a", integer(1)}, {"c", integer(3)}}, "b", "d")
	if !d.Set("b", integer(5)) {
		t.Error("b was there yet")
	}
	hold(t, d, pairs{{"a", integer(1)}, {"c", integer(3)}, {"b", integer(5)}}, "d")
	if d.Set("a", str("x")) {
		t.Error("a is new again")
	}
	hold(t, d, pairs{{"a", str("x")}, {"c", integer(3)}, {"b", integer(5)}}, "d")
}

// P9.1: the only name.
func TestLifeOfTheOnlyName(t *testing.T) {
	d := dict.New()
	for i := range 5 {
		if !d.Set("a", integer(i)) || d.Set("a", integer(i+10)) {
			t.Error("Set", i)
		}
		hold(t, d, pairs{{"a", integer(i + 10)}}, "")
		if !d.Delete("a") || d.Delete("a") {
			t.Error("Delete", i)
		}
		hold(t, d, nil, "a", "")
	}
}

// P9.1: the chapter's example.
func TestExample(t *testing.T) {
	d, _ := filled("a", "b")
	d.Delete("a")
	d.Set("a", integer(2))
	hold(t, d, pairs{{"b", integer(1)}, {"a", integer(2)}})
}

// P9.1: each name of lists of 1 to 9 names goes, and comes again; the others keep their order.
func TestDeleteAtEachPlace(t *testing.T) {
	letters := strings.Split("abcdefghi", "")
	for n := 1; n <= len(letters); n++ {
		for i, name := range letters[:n] {
			d, m := filled(letters[:n]...)
			rest := slices.Delete(slices.Clone(m), i, i+1)
			if !d.Delete(name) {
				t.Errorf("%s was not among %d", name, n)
			}
			hold(t, d, rest, name)
			if !d.Set(name, str("new")) {
				t.Errorf("%s was among %d yet", name, n)
			}
			hold(t, d, append(rest, pair{name, str("new")}))
		}
	}
}

// P9.1: names are deleted from the front, from the end, and from the middle, till none is there; then others come.
func TestDeleteAll(t *testing.T) {
	letters := strings.Split("abcdefghijklmnopqrstuvwxyz", "")
	for _, which := range []func(n int) int{
		func(n int) int { return 0 },
		func(n int) int { return n - 1 },
		func(n int) int { return n / 2 },
		func(n int) int { return n * 7 % 5 % n },
	} {
		d, m := filled(letters...)
		var gone []string
		for len(m) > 0 {
			i := which(len(m))
			gone = append(gone, m[i].name)
			if !d.Delete(m[i].name) {
				t.Errorf("%s was not there", m[i].name)
			}
			m = slices.Delete(m, i, i+1)
			hold(t, d, m, gone...)
		}
		for i, s := range []string{"B", "a", "A", ""} {
			if !d.Set(s, integer(i)) {
				t.Errorf("%q was there", s)
			}
		}
		hold(t, d, pairs{{"B", integer(0)}, {"a", integer(1)}, {"A", integer(2)}, {"", integer(3)}}, letters[1:]...)
	}
}

// P9.1: the empty text is a name, at each place, beside holes too.
func TestEmptyName(t *testing.T) {
	d := dict.New()
	if !d.Set("", integer(1)) || d.Set("", integer(2)) {
		t.Error("Set")
	}
	hold(t, d, pairs{{"", integer(2)}}, "a")
	if !d.Delete("") || d.Delete("") {
		t.Error("Delete")
	}
	hold(t, d, nil, "")
	for at := range 7 {
		names := slices.Insert([]string{"a", "b", "c", "d", "e", "f"}, at, "")
		d, m := filled(names...)
		hold(t, d, m)
		d.Delete("c")
		m.drop("c")
		hold(t, d, m, "c")
		d.Delete("")
		m.drop("")
		hold(t, d, m, "c", "")
		d.Set("", integer(9))
		hold(t, d, append(m, pair{"", integer(9)}), "c")
	}
}

// P9.1: names are bytes; those that look alike are others, and one of other memory is the same.
func TestNamesAreBytes(t *testing.T) {
	names := []string{
		"", " ", "a", "A", "a ", " a", "aa", "ab", "a\x00", "\x00", "\x00\x00", "\xff", "\xff\xfe", "\xc3", "é", "e\u0301", "0", "00", "null",
		strings.Repeat("a", 12), strings.Repeat("a", 13), strings.Repeat("a", 256), strings.Repeat("a", 257), strings.Repeat("\x00", 5000),
	}
	d, m := filled(names...)
	hold(t, d, m, "b", "aaa", "\xfe", strings.Repeat("a", 255))
	for i, s := range names {
		if d.Set(strings.Clone(s), str(s)) {
			t.Errorf("%q is not itself", s)
		}
		m[i].v = str(s)
		hold(t, d, m)
	}
	for i, s := range names {
		if !d.Delete(strings.Clone(s)) {
			t.Errorf("%q is not itself", s)
		}
		hold(t, d, m[i+1:], names[:i+1]...)
	}
}

// P9.1: names taken out of bytes that change afterwards.
func TestNamesOfBytesThatChange(t *testing.T) {
	b := []byte("abc")
	d := dict.New()
	d.Set(string(b), str(string(b)))
	copy(b, "xyz")
	d.Set(string(b), str(string(b)))
	hold(t, d, pairs{{"abc", str("abc")}, {"xyz", str("xyz")}})
}

// values are of each kind, the zero value among them, and such as may not be.
func values() []api.Value {
	return []api.Value{
		{}, {Kind: api.Bool}, {Kind: api.Bool, N: 1}, integer(0), integer(-7), integer(math.MaxInt), integer(math.MinInt),
		str(""), str("a"), str("\x00\xff"), str(strings.Repeat("b", 256)), str(strings.Repeat("b", 257)),
		{Kind: api.Obj, N: 1}, {Kind: api.Obj, N: 200}, {Kind: api.Fun}, {Kind: api.Fun, N: 31},
		{N: 1}, {S: "a"}, {Kind: api.Bool, N: 2}, {Kind: api.Obj}, {Kind: -1}, {Kind: 6, N: 5, S: "c"}, {Kind: math.MaxInt, N: math.MinInt, S: "\x00"},
	}
}

// P9.1: each value is kept as it is, with each other one set behind it.
func TestValuesOfEachKind(t *testing.T) {
	for _, v := range values() {
		for _, w := range values() {
			d := dict.New()
			if !d.Set("a", v) || !d.Set("b", w) {
				t.Fatalf("%v, %v: Set", v, w)
			}
			hold(t, d, pairs{{"a", v}, {"b", w}})
			if d.Set("a", w) || d.Set("b", v) {
				t.Fatalf("%v, %v: Set again", v, w)
			}
			hold(t, d, pairs{{"a", w}, {"b", v}})
			if !d.Delete("a") || !d.Set("a", v) {
				t.Fatalf("%v, %v: Delete, Set", v, w)
			}
			hold(t, d, pairs{{"b", v}, {"a", v}})
		}
	}
}

// P9.1: a property with the zero value is there, and one that is gone is not.
func TestZeroValueIsThere(t *testing.T) {
	d := dict.New()
	if _, is := d.Get("a"); is {
		t.Error("a is there ahead of Set")
	}
	if !d.Set("a", api.Value{}) || d.Set("a", api.Value{}) {
		t.Error("Set")
	}
	if v, is := d.Get("a"); !is || v != (api.Value{}) {
		t.Error(v, is)
	}
	d.Set("b", integer(7))
	d.Set("c", integer(8))
	d.Delete("b")
	if v, is := d.Get("b"); is || v != (api.Value{}) {
		t.Error("b is there behind Delete:", v, is)
	}
}

// P9.2: Key at the edges, without properties, with some, and with holes between them.
func TestKeyAtTheEdges(t *testing.T) {
	far := []int{-1, -2, math.MinInt, math.MaxInt, math.MaxInt - 1, 1 << 32, -1 << 32}
	d := dict.New()
	for n := range 40 {
		for _, i := range append(far, n, n+1, 2*n+1) {
			if s, is := d.Key(i); s != "" || is {
				t.Errorf("Key(%d) of %d is %q, %v", i, n, s, is)
			}
		}
		if n > 0 {
			if s, is := d.Key(n - 1); s != strconv.Itoa(n-1) || !is {
				t.Errorf("the last one of %d is %q, %v", n, s, is)
			}
			if s, is := d.Key(0); s != "0" || !is {
				t.Errorf("the first one of %d is %q, %v", n, s, is)
			}
		}
		d.Set(strconv.Itoa(n), integer(n))
	}
	for n := 39; n >= 30; n-- {
		d.Delete(strconv.Itoa(39 - n))
		for _, i := range append(far, n, n+1, 39, 40) {
			if s, is := d.Key(i); i >= n && is || i < 0 && is || !is && s != "" {
				t.Errorf("Key(%d) of %d is %q, %v", i, n, s, is)
			}
		}
		if s, is := d.Key(n - 1); s != "39" || !is {
			t.Errorf("the last one of %d is %q, %v", n, s, is)
		}
		if s, is := d.Key(0); s != strconv.Itoa(40-n) || !is {
			t.Errorf("the first one of %d is %q, %v", n, s, is)
		}
	}
}

// P9.2: what is done to a list that Names told shows neither in the Dict nor in another list.
func TestNamesAreNobodyElses(t *testing.T) {
	for _, holes := range [][]string{nil, {"b"}, {"e"}, {"a"}} {
		d, m := filled("a", "b", "c", "d", "e")
		for _, s := range holes {
			d.Delete(s)
			m.drop(s)
		}
		one, other := d.Names(), d.Names()
		for i := range one {
			one[i] = "x"
		}
		one = append(one, "y", "z")
		for i, s := range one[:cap(one)] {
			one[:cap(one)][i] = s + "!"
		}
		if !slices.Equal(other, m.names()) {
			t.Errorf("another list is %q", other)
		}
		hold(t, d, m, "x", "y", "z", "x!")
		d.Set("f", integer(6))
		d.Delete("c")
		if !slices.Equal(other, m.names()) {
			t.Errorf("a list that was told is %q", other)
		}
		m.set("f", integer(6))
		m.drop("c")
		hold(t, d, m, "x", "c")
	}
}

// P9.2: a clone has the same; what is done to one shows not in the other.
func TestClone(t *testing.T) {
	changes := []func(d *dict.Dict, m *pairs){
		func(d *dict.Dict, m *pairs) { d.Set("a", str("new")); m.set("a", str("new")) },
		func(d *dict.Dict, m *pairs) { d.Set("e", str("new")); m.set("e", str("new")) },
		func(d *dict.Dict, m *pairs) { d.Set("g", str("new")); m.set("g", str("new")) },
		func(d *dict.Dict, m *pairs) { d.Delete("b"); m.drop("b") },
		func(d *dict.Dict, m *pairs) {
			d.Delete("d")
			m.drop("d")
			d.Set("d", str("new"))
			m.set("d", str("new"))
		},
		func(d *dict.Dict, m *pairs) {
			for _, s := range []string{"a", "b", "c", "d", "e"} {
				d.Delete(s)
				m.drop(s)
			}
		},
		func(d *dict.Dict, m *pairs) {
			for i := range 50 {
				d.Set(strconv.Itoa(i), integer(i))
				m.set(strconv.Itoa(i), integer(i))
			}
		},
	}
	for _, holes := range []string{"", "a", "c", "e", "ac"} {
		for _, change := range changes {
			for _, turned := range []bool{false, true} {
				d, m := filled("a", "b", "c", "d", "e", "f")
				for _, s := range strings.Split(holes, "") {
					d.Delete(s)
					m.drop(s)
				}
				one, other := d, d.Clone()
				if turned {
					one, other = other, one
				}
				hold(t, one, m)
				hold(t, other, m)
				changed := slices.Clone(m)
				change(one, &changed)
				hold(t, one, changed)
				hold(t, other, m)
				change(other, &m)
				hold(t, one, changed)
				hold(t, other, m)
			}
		}
	}
}

// P9.2: both go their own way for long.
func TestCloneGoesOn(t *testing.T) {
	d, m := filled("a", "b", "c")
	c, n := d.Clone(), slices.Clone(m)
	for i := range 60 {
		s, r := strconv.Itoa(i), strconv.Itoa(i-3)
		d.Set(s, integer(i))
		m.set(s, integer(i))
		d.Delete(r)
		m.drop(r)
		c.Set(s, str(s))
		n.set(s, str(s))
		hold(t, d, m, r)
		hold(t, c, n)
	}
}

// P9.2: a clone of a Dict without properties is one; so is a clone of a clone.
func TestCloneOfFew(t *testing.T) {
	d := dict.New()
	c := d.Clone()
	hold(t, c, nil, "", "a")
	if !c.Set("a", integer(1)) {
		t.Error("Set")
	}
	hold(t, d, nil, "a")
	e := c.Clone()
	c.Delete("a")
	hold(t, c, nil, "a")
	hold(t, e, pairs{{"a", integer(1)}})
	hold(t, c.Clone(), nil, "a")
	hold(t, e.Clone().Clone(), pairs{{"a", integer(1)}})
}

// P9.3
func TestDictsThatNoCallMade(t *testing.T) {
	var none *dict.Dict
	for word, d := range map[string]*dict.Dict{"nil": none, "zero": {}, "new": new(dict.Dict), "clone": none.Clone()} {
		for _, s := range []string{"", "a", "a", "b"} {
			if d.Set(s, integer(1)) || d.Set(s, api.Value{}) {
				t.Errorf("%s: Set(%q)", word, s)
			}
			if v, is := d.Get(s); v != (api.Value{}) || is {
				t.Errorf("%s: Get(%q) is %v, %v", word, s, v, is)
			}
			if d.Delete(s) || d.Delete("") {
				t.Errorf("%s: Delete(%q)", word, s)
			}
			for _, i := range []int{0, 1, -1, math.MinInt, math.MaxInt} {
				if k, is := d.Key(i); k != "" || is {
					t.Errorf("%s: Key(%d) is %q, %v", word, i, k, is)
				}
			}
			if d.Len() != 0 || len(d.Names()) != 0 {
				t.Errorf("%s: %d, %q", word, d.Len(), d.Names())
			}
			if c := d.Clone(); c != nil {
				t.Errorf("%s: Clone is %v", word, c)
			}
		}
	}
}

// R1: a struct that was copied ahead of changes is no part of a Dict, at which a call would panic.
func TestCopiedStruct(t *testing.T) {
	d, _ := filled("a", "b", "c")
	e := *d
	for i := range 40 {
		s := strconv.Itoa(i)
		d.Set(s, integer(i))
		e.Get(s)
		e.Delete("b")
		e.Set(s+"x", integer(i))
		d.Delete(s)
		for k := range 3 * d.Len() {
			d.Key(k)
			e.Key(k)
		}
		if len(e.Names()) != e.Len() || len(d.Names()) != d.Len() {
			t.Error(e.Names(), d.Names())
		}
		e.Clone()
	}
}

// R4: two Dicts have nothing in common.
func TestTwoDicts(t *testing.T) {
	d, e := dict.New(), dict.New()
	d.Set("a", integer(1))
	hold(t, e, nil, "a")
	e.Set("b", integer(2))
	e.Set("a", integer(3))
	hold(t, d, pairs{{"a", integer(1)}}, "b")
	d.Delete("a")
	hold(t, e, pairs{{"b", integer(2)}, {"a", integer(3)}})
}
