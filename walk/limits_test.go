package walk_test

import (
	"math"
	"strconv"
	"strings"
	"testing"

	"proteus/api"
	"proteus/walk"
)

// fuels are such as are cut, and such as are not.
func fuels() []int {
	return []int{math.MinInt, -maxFuel, -1, 0, 1, 2, 1000, maxFuel - 1, maxFuel, maxFuel + 1, 1 << 40, math.MaxInt}
}

// cut is a number between 0 and the greatest.
func cut(n, top int) int {
	if n < 0 {
		return 0
	}
	if n > top {
		return top
	}
	return n
}

// around are numbers at both ends of a limit, and beyond.
func around(top int) []int {
	return []int{math.MinInt, -top, -1, 0, 1, 2, top - 1, top, top + 1, 2 * top, 1 << 40, math.MaxInt}
}

// P13.1: each limit is cut on its own.
func TestCut(t *testing.T) {
	for _, n := range append(around(200), 31, 32, 33, 49, 50, 51, 255, 256, 257) {
		for _, x := range []struct{ given, want api.Limits }{
			{api.Limits{Objects: n}, api.Limits{Objects: cut(n, 200)}},
			{api.Limits{Depth: n}, api.Limits{Depth: cut(n, 50)}},
			{api.Limits{Props: n}, api.Limits{Props: cut(n, 32)}},
			{api.Limits{Str: n}, api.Limits{Str: cut(n, 256)}},
			{api.Limits{Objects: n, Depth: 7, Props: -7, Str: 1000}, api.Limits{Objects: cut(n, 200), Depth: 7, Str: 256}},
			{api.Limits{Objects: n, Depth: n, Props: n, Str: n}, api.Limits{Objects: cut(n, 200), Depth: cut(n, 50), Props: cut(n, 32), Str: cut(n, 256)}},
		} {
			if got := walk.Cut(x.given); got != x.want {
				t.Errorf("%v is cut to %v, not to %v", x.given, got, x.want)
			}
			if got := walk.Cut(x.want); got != x.want {
				t.Errorf("%v is cut again, to %v", x.want, got)
			}
		}
	}
}

// P13.1: fuel is cut: a run without an end takes as many steps as there are, and what costs nothing goes on.
func TestFuel(t *testing.T) {
	for _, fuel := range fuels() {
		o, n := run(t, load(t, "while (true) {}"), fuel, greatest)
		if want := "fuel 44 [] " + strconv.Itoa(cut(fuel, maxFuel)); told(o, n) != want {
			t.Errorf("fuel %d comes to %s, not to %s", fuel, told(o, n), want)
		}
	}
}

// P13.1: the end of fuel at each step of a run, by what was printed until then.
func TestFuelStepByStep(t *testing.T) {
	u := load(t, "print 1 + 2; let f = fn(x) { print x; }; f(7); if (null) {} else { print {a: 8}.a; } return 9;")
	want := []string{"", "", "", "", "3", "3", "3", "3", "3", "3", "3", "3", "3,7", "3,7", "3,7", "3,7", "3,7", "3,7", "3,7", "3,7,8", "3,7,8", "3,7,8"}
	for fuel, out := range want {
		kind := "fuel 44"
		if fuel == len(want)-1 {
			kind = "done 9"
		}
		if o, n := run(t, u, fuel, greatest); told(o, n) != kind+" ["+out+"] "+strconv.Itoa(fuel) {
			t.Errorf("fuel %d comes to %s", fuel, told(o, n))
		}
	}
}

// P13.1: what is done ahead of the end of fuel: a step is taken ahead of all else, and nothing behind the last one.
func TestFuelComesFirst(t *testing.T) {
	for _, x := range []struct {
		src  string
		fuel int
		want string
	}{
		{"print 1 / 0;", 3, "fuel 44 [] 3"},
		{"print 1 / 0;", 4, "failed 31 [] 4"},
		{"null.x;", 2, "fuel 44 [] 2"},
		{"null.x;", 3, "failed 30 [] 3"},
		{"null.m(1);", 3, "failed 30 [] 3"},
		{"null(1);", 3, "fuel 44 [] 3"},
		{"null(1);", 4, "failed 30 [] 4"},
		{"let f = fn() { f(); }; f();", 4, "fuel 44 [] 4"},
		{"let f = fn() {}; f();", 5, "done null [] 5"},
		{"while (false) {}", 2, "done null [] 2"},
		{"while (true) {}", 2, "fuel 44 [] 2"},
		{"print 1;", 1, "fuel 44 [] 1"},
		{"print 1;", 2, "done null [1] 2"},
		{"print 1;", 0, "fuel 44 [] 0"},
		{"print 1;", -5, "fuel 44 [] 0"},
		{"print 1; print 2;", 2, "fuel 44 [1] 2"},
	} {
		if o, n := run(t, load(t, x.src), x.fuel, greatest); told(o, n) != x.want {
			t.Errorf("%s with %d comes to %s, not to %s", x.src, x.fuel, told(o, n), x.want)
		}
	}
	l := greatest
	l.Objects, l.Depth = 0, 0
	for _, x := range []row{
		{"{};", "fuel 44 [] 1"}, {"this; {};", "fuel 44 [] 3"}, {"fn() {}();", "fuel 44 [] 2"},
	} {
		o, n := run(t, load(t, x.src), int(x.want[len(x.want)-1]-'0'), l)
		if told(o, n) != x.want {
			t.Errorf("%s comes to %s, not to %s", x.src, told(o, n), x.want)
		}
	}
}

// counted are the texts 1 to n, or 0 to n-1.
func counted(from, n int) string {
	var out []string
	for i := range n {
		out = append(out, strconv.Itoa(from+i))
	}
	return strings.Join(out, ",")
}

// P13.1: the last object that there may be, and one more.
func TestLimitOfObjects(t *testing.T) {
	for _, n := range around(maxObjects) {
		l, top := greatest, cut(n, maxObjects)
		l.Objects = n
		holdWith(t, row{"let i = 1; while (true) { {}; print i; i = i + 1; }", "limit 40 [" + counted(1, top) + "] " + strconv.Itoa(3+10*top+4)}, l)
		holdWith(t, row{"let i = 0; while (i < " + strconv.Itoa(top) + ") { {}; i = i + 1; } print i;", "done null [" + strconv.Itoa(top) + "] " + strconv.Itoa(8+10*top)}, l)
	}
}

// P13.1: an object that is refused is refused ahead of its Kids; those within come behind it.
func TestObjectsWithinObjects(t *testing.T) {
	s := "let s = fn(x) { print x; return x; }; "
	for _, x := range []struct {
		objects int
		row
	}{
		{0, row{s + "{a: s(1)};", "limit 40 [] 4"}},
		{1, row{s + "{a: s(1), b: {}, c: s(2)};", "limit 40 [1] 12"}},
		{2, row{s + "{a: s(1), b: {}, c: s(2)};", "done null [1,2] 19"}},
		{1, row{s + "{a: {b: s(1)}};", "limit 40 [] 5"}},
	} {
		l := greatest
		l.Objects = x.objects
		holdWith(t, x.row, l)
	}
}

// P13.1: the last call within calls that there may be, and one more.
func TestLimitOfCalls(t *testing.T) {
	for _, n := range around(maxCalls) {
		l, top := greatest, cut(n, maxCalls)
		l.Depth = n
		holdWith(t, row{"let f = fn(n) { print n; f(n + 1); }; f(1);", "limit 41 [" + counted(1, top) + "] " + strconv.Itoa(6+8*top)}, l)
		holdWith(t, row{"let o = {f: fn(n) { print n; this.f(n + 1); }}; o.f(1);", "limit 41 [" + counted(1, top) + "] " + strconv.Itoa(7+8*top)}, l)
		if top == 0 {
			continue
		}
		deep := "let f = fn(n) { if (n < " + strconv.Itoa(top) + ") { return f(n + 1); } return n; }; "
		holdWith(t, row{deep + "return f(1);", "done " + strconv.Itoa(top) + " [] " + strconv.Itoa(2+4+(top-1)*11+7)}, l)
		l.Depth = top - 1
		holdWith(t, row{deep + "return f(1);", "limit 41 [] " + strconv.Itoa(2+4+(top-1)*11)}, l)
	}
}

// P13.1: a call that is refused has its arguments walked; what is no Fun fails, whatever the limit.
func TestRefusedCalls(t *testing.T) {
	l := greatest
	l.Depth = 0
	for _, x := range []row{
		{"let f = fn(x) {}; f({}, 1 / 0);", "failed 31 [] 9"},
		{"let f = fn(x) {}; f({}, 1);", "limit 41 [] 7"},
		{"null(1);", "failed 30 [] 4"},
		{"{}.m(1);", "failed 30 [] 4"},
		{"{m: fn() {}}.m(1 / 0);", "failed 31 [] 7"},
		{"{m: fn() {}}.m(1);", "limit 41 [] 5"},
	} {
		holdWith(t, x, l)
	}
}

// P13.1: the last property that there may be, and one more; by SSet, SSetIx and EObj.
func TestLimitOfProps(t *testing.T) {
	for _, n := range around(maxProps) {
		l, top := greatest, cut(n, maxProps)
		l.Props = n
		holdWith(t, row{`let o = {}; let i = 0; while (true) { o["p" + str(i)] = i; print i; i = i + 1; }`, "limit 42 [" + counted(0, top) + "] " + strconv.Itoa(5+15*top+9)}, l)
		var props []string
		for i := range min(top+1, 40) {
			props = append(props, "p"+strconv.Itoa(i)+": s("+strconv.Itoa(i)+")")
		}
		s := "let s = fn(x) { print x; return x; }; "
		holdWith(t, row{s + "return count({" + strings.Join(props[:top], ", ") + "});", "done " + strconv.Itoa(top) + " [" + counted(0, top) + "] " + strconv.Itoa(5+7*top)}, l)
		holdWith(t, row{s + "{" + strings.Join(props, ", ") + "};", "limit 42 [" + counted(0, top+1) + "] " + strconv.Itoa(4+7*(top+1))}, l)
	}
}

// P13.1: at the limit of properties those that are there are set, and what goes makes room.
func TestFullObjects(t *testing.T) {
	l := greatest
	l.Props = 2
	for _, x := range []row{
		{"let o = {a: 1, b: 2}; o.a = 3; o.b = 4; print o.a + o.b; o.c = 5;", "limit 42 [7] 19"},
		{"let o = {a: 1, b: 2, a: 3}; return o.a;", "done 3 [] 8"},
		{"let o = {a: 1, b: 2, c: 1 / 0};", "failed 31 [] 7"},
		{`let o = {a: 1, b: 2}; delete o.a; o.c = 5; o["c"] = 6; print o.c; o["a"] = 7;`, "limit 42 [6] 20"},
		{"let o = setproto({a: 1, b: 2}, {c: 1, d: 2}); print o.c; o.c = 1;", "limit 42 [1] 14"},
		{"let o = {a: 1, b: 2}; o.c = 1 / 0;", "failed 31 [] 9"},
		{"let s = fn(x) { print x; return x; }; {a: s(1), b: s(2), a: s(3), c: s(4), a: s(5)};", "limit 42 [1,2,3,4] 32"},
	} {
		holdWith(t, x, l)
	}
	l.Props = 0
	for _, x := range []row{
		{"let o = {}; print o.a; delete o.a; print count(o); o.a = 1;", "limit 42 [null,0] 13"},
		{"{a: 1};", "limit 42 [] 3"},
		{"{a: 1, b: 1 / 0};", "limit 42 [] 3"},
		{"let s = fn(x) { print x; return x; }; {a: s(1), b: s(2)};", "limit 42 [1] 11"},
	} {
		holdWith(t, x, l)
	}
}

// P13.1: the last byte that a string may have, and one more.
func TestLimitOfStr(t *testing.T) {
	for _, n := range around(maxStr) {
		l, top := greatest, cut(n, maxStr)
		l.Str = n
		holdWith(t, row{`let s = ""; while (true) { s = s + "a"; print len(s); }`, "limit 43 [" + counted(1, top) + "] " + strconv.Itoa(3+9*top+6)}, l)
		long := strings.Repeat("x", top)
		holdWith(t, row{`return str("` + long + `");`, "done " + long + " [] 3"}, l)
		holdWith(t, row{`return "" + "` + long + `";`, "done " + long + " [] 4"}, l)
		if top < maxStr {
			holdWith(t, row{`print 1; str("` + long + `x"); print 2;`, "limit 43 [1] 5"}, l)
		}
		holdWith(t, row{`print 1; "` + long + `" + "x"; print 2;`, "limit 43 [1] 6"}, l)
	}
}

// P13.1: the limit is that of ops alone: strings that are written, and names of properties, may have more bytes.
func TestLongStrings(t *testing.T) {
	long := strings.Repeat("x", maxStr)
	l := greatest
	l.Str = 3
	for _, x := range []row{
		{`print "` + long + `"; return len("` + long + `");`, "done 256 [" + long + "] 5"},
		{`let o = {abcd: 1}; return len(key(o, 0));`, "done 4 [] 8"},
		{`let o = {}; o["` + long + `"] = 1; return key(o, 0) == "` + long + `";`, "done true [] 12"},
		{`return "abcd" == "abcd";`, "done true [] 4"},
		{`return str(-12);`, "done -12 [] 4"},
		{`return str(-123);`, "limit 43 [] 4"},
		{`return str(null);`, "limit 43 [] 3"},
		{`return str({});`, "limit 43 [] 3"},
		{`return "abc" + 1;`, "failed 30 [] 4"},
		{`return "abcd" + null;`, "failed 30 [] 4"},
		{`return "ab" + "c" + "d";`, "limit 43 [] 6"},
	} {
		holdWith(t, x, l)
	}
	l.Str = 0
	for _, x := range []row{
		{`return "" + "";`, "done  [] 4"},
		{`return str("");`, "done  [] 3"},
		{`return str(0);`, "limit 43 [] 3"},
		{`return len("abc");`, "done 3 [] 3"},
	} {
		holdWith(t, x, l)
	}
}

// P13.1: what was printed ahead of each way to end.
func TestPrintedAhead(t *testing.T) {
	l := api.Limits{Objects: 1, Depth: 1, Props: 1, Str: 1}
	for _, x := range []row{
		{`print 1; print 2; 1 / 0; print 3;`, "failed 31 [1,2] 8"},
		{`print 1; print 2; 1 % 0; print 3;`, "failed 31 [1,2] 8"},
		{`print 1; null.x; print 3;`, "failed 30 [1] 5"},
		{`let o = {}; print 1; setproto(o, o); print 3;`, "failed 32 [1] 8"},
		{`print {}; print {}; print 3;`, "limit 40 [object] 4"},
		{`let f = fn() { print 1; f(); print 2; }; f(); print 3;`, "limit 41 [1] 10"},
		{`let o = {a: 1}; print 1; o.b = 2; print 3;`, "limit 42 [1] 8"},
		{`print 1; "a" + "b"; print 3;`, "limit 43 [1] 6"},
		{`print 1; while (true) {}`, "fuel 44 [1] 1048576"},
	} {
		holdWith(t, x, l)
	}
}
