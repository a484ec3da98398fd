package scope_test

import (
	"reflect"
	"slices"
	"strconv"
	"strings"
	"testing"

	"proteus/api"
	"proteus/parse"
	"proteus/scope"
	"proteus/tree"
)

// read is a text's program.
func read(t *testing.T, s string) api.Node {
	t.Helper()
	n, at, e := parse.Parse(s)
	if e != api.OK {
		t.Fatalf("Parse(%q) is %v at %d", s, e, at)
	}
	return n
}

// resolved is a text's unit.
func resolved(t *testing.T, s string) api.Unit {
	t.Helper()
	u, at, e := scope.Resolve(read(t, s))
	if e != api.OK || at != 0 {
		t.Fatalf("Resolve(%q) is %v at %d", s, e, at)
	}
	return u
}

// refused holds Resolve of a program against an error and its place.
func refused(t *testing.T, n api.Node, at int, e api.Errno) {
	t.Helper()
	u, gotAt, got := scope.Resolve(n)
	if got != e || gotAt != at || u.Globals != 0 || len(u.Fns) != 0 {
		t.Errorf("Resolve(%v) is %v, %d, %v; not %v at %d", n, u, gotAt, got, e, at)
	}
}

// numbered is a resolved node as one that can be written: its number is its name, behind a letter.
func numbered(n api.Node) api.Node {
	letters := map[int]string{api.ELocal: "l", api.EGlobal: "g", api.EFun: "f", api.SLocal: "l", api.SGlobal: "g"}
	switch n.Kind {
	case api.ELocal, api.EGlobal, api.EFun:
		return api.Node{Kind: api.EName, S: letters[n.Kind] + strconv.Itoa(n.N)}
	case api.SLocal, api.SGlobal:
		return api.Node{Kind: api.SAssign, S: letters[n.Kind] + strconv.Itoa(n.N), Kids: numberedAll(n.Kids)}
	case api.EName, api.EFn, api.SLet, api.SAssign:
		return api.Node{Kind: -1}
	}
	n.Kids = numberedAll(n.Kids)
	return n
}

func numberedAll(l []api.Node) []api.Node {
	var out []api.Node
	for _, n := range l {
		out = append(out, numbered(n))
	}
	return out
}

// told is a unit as lines: how many globals; and of each function its parameters, its locals, and what it does.
func told(t *testing.T, u api.Unit) []string {
	t.Helper()
	out := []string{strconv.Itoa(u.Globals)}
	for _, f := range u.Fns {
		s, e := tree.Print(api.Node{Kind: api.SBlock, Kids: numberedAll(f.Body)})
		if e != api.OK {
			t.Fatalf("%v can't be written: %v", f.Body, e)
		}
		out = append(out, strconv.Itoa(f.Params)+" "+strconv.Itoa(f.Locals)+": "+s)
	}
	return out
}

// P8.1: programs, and what their names become.
func TestNames(t *testing.T) {
	for _, x := range []struct {
		s    string
		want []string
	}{
		{"", []string{"0", "0 0: "}},
		{"print 1;", []string{"0", "0 0: print 1;"}},
		// The chapter's own.
		{"let a = 1; fn(b) { return a + b; };", []string{"1", "0 0: g0 = 1; f1;", "1 1: return g0 + l0;"}},
		// Globals: declared, assigned, read.
		{"let a = 1; let b = a; a = b; print a;", []string{"2", "0 0: g0 = 1; g1 = g0; g0 = g1; print g0;"}},
		// The order is that of the text, not that of the letters.
		{"let z = 1; let a = 2; let m = 3; print a + z + m;", []string{"3", "0 0: g0 = 1; g1 = 2; g2 = 3; print g1 + g0 + g2;"}},
		// Locals: the same.
		{"fn() { let a = 1; let b = a; a = b; print a; };", []string{"0", "0 0: f1;", "0 2: l0 = 1; l1 = l0; l0 = l1; print l0;"}},
		// Blocks within blocks declare for their function.
		{"let a = 1; if (a) { while (a) { let b = a; } let c = b; } else { let d = c; } let e = d;",
			[]string{"5", "0 0: g0 = 1; if (g0) { while (g0) { g1 = g0; } g2 = g1; } else { g3 = g2; } g4 = g3;"}},
		{"fn(p) { if (p) { let x = p; } else { while (x) { let y = x; if (y) {} else { let z = y; } } } let w = z; };",
			[]string{"0", "0 0: f1;", "1 5: if (l0) { l1 = l0; } else { while (l1) { l2 = l1; if (l2) {} else { l3 = l2; } } } l4 = l3;"}},
		// Used ahead of its SLet; in its own, too.
		{"print a; a = 1; let a = a;", []string{"1", "0 0: print g0; g0 = 1; g0 = g0;"}},
		{"fn() { print a; a = 1; let a = a; };", []string{"0", "0 0: f1;", "0 1: print l0; l0 = 1; l0 = l0;"}},
		{"fn() { return a; }; let a = 1;", []string{"1", "0 0: f1; g0 = 1;", "0 0: return g0;"}},
		{"fn() { a = 1; }; if (1) { let a = 1; }", []string{"1", "0 0: f1; if (1) { g0 = 1; }", "0 0: g0 = 1;"}},
		// A local with a global's name, ahead of its SLet, too; elsewhere the global.
		{"let a = 1; fn(a) { a = a; }; a = a;", []string{"1", "0 0: g0 = 1; f1; g0 = g0;", "1 1: l0 = l0;"}},
		{"let b = 1; let a = 1; fn() { a = a; if (b) { let a = 2; } }; a = a;",
			[]string{"2", "0 0: g0 = 1; g1 = 1; f1; g1 = g1;", "0 1: l0 = l0; if (g0) { l0 = 2; }"}},
		// Parameters are ahead of SLets in number, all of them.
		{"fn(b, a) { let d = c; let c = b; return a + d; };", []string{"0", "0 0: f1;", "2 4: l2 = l3; l3 = l0; return l1 + l2;"}},
		{"fn(a, b, c, d, e, f) { f = a; };", []string{"0", "0 0: f1;", "6 6: l5 = l0;"}},
		{"fn(a) { };", []string{"0", "0 0: f1;", "1 1: "}},
		// A function within a function, and one behind another: numbers are those of the beginnings.
		{"fn() { fn() {}; }; fn() {};", []string{"0", "0 0: f1; f3;", "0 0: f2;", "0 0: ", "0 0: "}},
		{"let x = fn(a) { return fn(b) { return fn(c) { return x; }; }; }; fn(d) { d; }(fn() { x = 1; });",
			[]string{"1", "0 0: g0 = f1; f4(f5);", "1 1: return f2;", "1 1: return f3;", "1 1: return g0;", "1 1: l0;", "0 0: g0 = 1;"}},
		// Behind a function within it, the one around has its own names again.
		{"let x = 1; fn(x) { fn(y) { return x; }; return x; }; x;", []string{"1", "0 0: g0 = 1; f1; g0;", "1 1: f2; return l0;", "1 1: return g0;"}},
		{"fn(a) { let b = fn(b, a) { let c = a + b; return fn(c) { return c; }; }; return a + b; };",
			[]string{"0", "0 0: f1;", "1 2: l1 = f2; return l0 + l1;", "2 3: l2 = l1 + l0; return f3;", "1 1: return l0;"}},
		// What a function within declares is not what the one around declares.
		{"let a = fn() { let b = 1; }; let b = 2; fn() { let c = 1; fn() { let c = b; let d = c; }; };",
			[]string{"2", "0 0: g0 = f1; g1 = 2; f2;", "0 1: l0 = 1;", "0 1: l0 = 1; f3;", "0 2: l0 = g1; l1 = l0;"}},
		// A name that the function around declares, and the whole as well: the whole's.
		{"let a = 1; fn(a) { return fn() { a = a; }; };", []string{"1", "0 0: g0 = 1; f1;", "1 1: return f2;", "0 0: g0 = g0;"}},
		// Properties and strings are no names.
		{"let o = {o: 1, fn: 2, a: {}}; o.a = o.b; o.a.c(o, \"o\")[\"a\"] = 1; delete o.a; delete o[o]; print has(o, \"o\");",
			[]string{"1", "0 0: g0 = {o: 1, fn: 2, a: {}}; g0.a = g0.b; g0.a.c(g0, \"o\")[\"a\"] = 1; delete g0.a; delete g0[g0]; print has(g0, \"o\");"}},
		// All the others stay as they are.
		{"let a = null; a = this; a = true; a = false; a = 7; a = -a; a = !a; a = a * a - a; a = a && a || a; return a(a, a);",
			[]string{"1", "0 0: g0 = null; g0 = this; g0 = true; g0 = false; g0 = 7; g0 = -g0; g0 = !g0; g0 = g0 * g0 - g0; g0 = g0 && g0 || g0; return g0(g0, g0);"}},
	} {
		u := resolved(t, x.s)
		if got := told(t, u); !slices.Equal(got, x.want) {
			t.Errorf("Resolve(%q) is %q, not %q", x.s, got, x.want)
		}
		if e := scope.Check(u); e != api.OK {
			t.Errorf("Check of Resolve(%q) is %v", x.s, e)
		}
	}
}

// P8.1: what a unit is, field by field; At is 0 everywhere.
func TestUnit(t *testing.T) {
	got := resolved(t, "let o = {x: 1}; if (o) { o.y = fn(a) { let b = a; o = b; }; }")
	global := api.Node{Kind: api.EGlobal}
	want := api.Unit{Globals: 1, Fns: []api.Fn{
		{Body: []api.Node{
			{Kind: api.SGlobal, Kids: []api.Node{{Kind: api.EObj, Names: []string{"x"}, Kids: []api.Node{{Kind: api.EInt, N: 1}}}}},
			{Kind: api.SIf, Kids: []api.Node{
				global,
				{Kind: api.SBlock, Kids: []api.Node{{Kind: api.SSet, S: "y", Kids: []api.Node{global, {Kind: api.EFun, N: 1}}}}},
				{Kind: api.SBlock},
			}},
		}},
		{Params: 1, Locals: 2, Body: []api.Node{
			{Kind: api.SLocal, N: 1, Kids: []api.Node{{Kind: api.ELocal}}},
			{Kind: api.SGlobal, Kids: []api.Node{{Kind: api.ELocal, N: 1}}},
		}},
	}}
	if !reflect.DeepEqual(bareUnit(got), bareUnit(want)) {
		t.Errorf("it is %v, not %v", got, want)
	}
	if !scope.Same(got, want) {
		t.Errorf("%v is not the same as %v", got, want)
	}
	for _, f := range got.Fns {
		for _, n := range flat(f.Body) {
			if n.At != 0 {
				t.Errorf("%v has an At", *n)
			}
		}
	}
}

// P8.1: texts that are refused: the first fault, function by function, what it declares ahead of its statements.
func TestFaults(t *testing.T) {
	for _, x := range []struct {
		s string // a stroke stands right ahead of the fault
		e api.Errno
	}{
		// Names that nobody declares: read, assigned, called, and what only another function declares.
		{s: "print |a;", e: api.ErrName},
		{s: "|a = 1;", e: api.ErrName},
		{s: "|a(1);", e: api.ErrName},
		{s: "|a.b(1);", e: api.ErrName},
		{s: "let b = 1; b(b, |a);", e: api.ErrName},
		{s: "let x = {y: |y};", e: api.ErrName},
		{s: "let x = 1; if (x) { x = 1; } else { |y = 1; }", e: api.ErrName},
		{s: "while (|y) {}", e: api.ErrName},
		{s: "let f = fn(a) { return 1; }; print |a;", e: api.ErrName},
		{s: "let f = fn() { let a = 1; }; |a = 2;", e: api.ErrName},
		{s: "fn(a) { return fn() { return |a; }; };", e: api.ErrName},
		{s: "fn() { let a = 1; fn(b) { |a = b; }; };", e: api.ErrName},
		{s: "fn() { fn(b) { let a = b; }; return |a; };", e: api.ErrName},
		{s: "fn(a) {}; fn() { return |a; };", e: api.ErrName},
		// One thing twice.
		{s: "let a = 1; let |a = 2;", e: api.ErrTwice},
		{s: "let a = 1; let b = 1; let |a = 2; let b = 2;", e: api.ErrTwice},
		{s: "let a = 1; if (a) { let |a = 2; }", e: api.ErrTwice},
		{s: "if (1) { let a = 1; } else { let |a = 2; }", e: api.ErrTwice},
		{s: "while (1) { let a = 1; } let |a = 2;", e: api.ErrTwice},
		{s: "while (1) { if (1) { let a = 1; } } if (1) {} else { let |a = 1; }", e: api.ErrTwice},
		{s: "|fn(a, a) {};", e: api.ErrTwice},
		{s: "print 1; |fn(a, b, c, d, e, a) {};", e: api.ErrTwice},
		{s: "fn(a) { let |a = 1; };", e: api.ErrTwice},
		{s: "fn(b, a) { if (a) { let |a = 1; } };", e: api.ErrTwice},
		{s: "fn() { let a = 1; let |a = 1; };", e: api.ErrTwice},
		{s: "fn() { return fn(a) { return |fn(b, b) {}; }; };", e: api.ErrTwice},
		// Several at once. What a function declares is ahead of its statements,
		{s: "let x = y; let |x = 1;", e: api.ErrTwice},
		{s: "fn() { y = z; let x = 1; let |x = 1; };", e: api.ErrTwice},
		{s: "fn() { return z; }; let x = 1; let |x = 1;", e: api.ErrTwice},
		{s: "fn(a, a) {}; let x = 1; let |x = 1;", e: api.ErrTwice},
		{s: "fn() { fn(a, a) {}; let x = 1; let |x = 1; };", e: api.ErrTwice},
		{s: "fn() { fn() { let y = 1; let y = 1; }; let x = 1; let |x = 1; };", e: api.ErrTwice},
		{s: "let x = fn(a, a) {}; let |x = 1;", e: api.ErrTwice},
		// its parameters ahead of its SLets,
		{s: "|fn(a, a) { let b = 1; let b = 2; let a = 3; };", e: api.ErrTwice},
		{s: "|fn(a, b, b) { return c; };", e: api.ErrTwice},
		// each function where it stands, all of it, ahead of what is behind it,
		{s: "|p; fn(a, a) {};", e: api.ErrName},
		{s: "|fn(a, a) {}; p;", e: api.ErrTwice},
		{s: "fn() { return |q; }; r;", e: api.ErrName},
		{s: "fn() { return |q; }; fn(a, a) {};", e: api.ErrName},
		{s: "fn() { let x = 1; let |x = 1; }; fn(a, a) {};", e: api.ErrTwice},
		{s: "fn() { fn() { return |q; }; let x = r; };", e: api.ErrName},
		{s: "fn() { fn() { fn() {}; |q; }; fn(a, a) {}; };", e: api.ErrName},
		{s: "fn() { |q; fn(a, a) {}; };", e: api.ErrName},
		{s: "fn() { |fn(a, a) {}; q; };", e: api.ErrTwice},
		{s: "let f = 1; f(|fn(a, a) {}, b);", e: api.ErrTwice},
		{s: "let f = 1; f(|b, fn(a, a) {});", e: api.ErrName},
		{s: "let f = 1; f(fn() { |b; }, c);", e: api.ErrName},
		// a statement's own name ahead of its Kids, and Kids in order.
		{s: "|x = fn(a, a) {};", e: api.ErrName},
		{s: "|x = y;", e: api.ErrName},
		{s: "let x = |y + z;", e: api.ErrName},
		{s: "|x[y] = z;", e: api.ErrName},
		{s: "let x = 1; x[|y] = z;", e: api.ErrName},
		{s: "let x = 1; x[x] = |z;", e: api.ErrName},
		{s: "|x.y = z;", e: api.ErrName},
		{s: "delete |x[y];", e: api.ErrName},
		{s: "if (|x) { y; } else { z; }", e: api.ErrName},
		{s: "if (1) { |y; } else { z; }", e: api.ErrName},
		{s: "print {a: |x, b: y};", e: api.ErrName},
	} {
		at := strings.Index(x.s, "|")
		refused(t, read(t, strings.Replace(x.s, "|", "", 1)), at, x.e)
	}
}

func block(l ...api.Node) api.Node   { return api.Node{Kind: api.SBlock, Kids: l} }
func expr(n api.Node) api.Node       { return api.Node{Kind: api.SExpr, Kids: []api.Node{n}} }
func null() api.Node                 { return api.Node{Kind: api.ENull} }
func name(s string, at int) api.Node { return api.Node{Kind: api.EName, S: s, At: at} }

func let(s string, at int) api.Node {
	return api.Node{Kind: api.SLet, S: s, At: at, Kids: []api.Node{null()}}
}

func fn(at int, names []string, l ...api.Node) api.Node {
	return api.Node{Kind: api.EFn, Names: names, Kids: l, At: at}
}

// several are numbered names.
func several(letter string, n int) []string {
	var out []string
	for i := range n {
		out = append(out, letter+strconv.Itoa(i))
	}
	return out
}

// lets are SLets of these names, each in its place from at on.
func lets(names []string, at int) []api.Node {
	var out []api.Node
	for i, s := range names {
		out = append(out, let(s, at+i))
	}
	return out
}

// P8.1: tree.Check's errors come first, with 0, whatever the nodes' places are.
func TestNoProgram(t *testing.T) {
	high := api.Node{Kind: api.EName, S: "a", At: 7}
	for range 10 {
		high = api.Node{Kind: api.EUn, Op: api.Not, Kids: []api.Node{high}, At: 7}
	}
	twice := []api.Node{let("a", 3), let("a", 4)}
	for _, x := range []struct {
		n api.Node
		e api.Errno
	}{
		{api.Node{}, api.ErrArg},
		{api.Node{At: 5}, api.ErrArg},
		{expr(null()), api.ErrArg},
		{null(), api.ErrArg},
		{block(high), api.ErrArg},
		{block(name("a", 9)), api.ErrArg},
		{block(append(twice, name("a", 5))...), api.ErrArg},
		{block(append(twice, expr(name("if", 5)))...), api.ErrArg},
		{block(append(twice, expr(name("", 5)))...), api.ErrArg},
		{block(append(twice, expr(fn(1, []string{"a", "a", "a", "a", "a", "a", "a"})))...), api.ErrArg},
		{block(append(twice, block())...), api.ErrArg},
		{block(slices.Repeat([]api.Node{expr(name("a", 4))}, 41)...), api.ErrArg},
		{api.Node{Kind: api.SBlock, N: 1, Kids: twice, At: 2}, api.ErrArg},
		// What only units have is in no program.
		{block(expr(api.Node{Kind: api.ELocal, At: 1})), api.ErrArg},
		{block(expr(api.Node{Kind: api.EGlobal, At: 1})), api.ErrArg},
		{block(expr(api.Node{Kind: api.EFun, At: 1})), api.ErrArg},
		{block(let("a", 1), api.Node{Kind: api.SLocal, Kids: []api.Node{null()}, At: 1}), api.ErrArg},
		{block(let("a", 1), api.Node{Kind: api.SGlobal, Kids: []api.Node{null()}, At: 1}), api.ErrArg},
		{block(expr(api.Node{Kind: api.EFn, Kids: []api.Node{{Kind: api.SGlobal, Kids: []api.Node{null()}}}})), api.ErrArg},
		// Of a height of 13; and of one that is wrong, too.
		{block(expr(high)), api.ErrDeep},
		{block(append(twice, expr(high))...), api.ErrDeep},
		{api.Node{Kind: -1, At: 8, Kids: []api.Node{expr(high)}}, api.ErrDeep},
	} {
		if e := tree.Check(x.n); e != x.e {
			t.Fatalf("Check(%v) is %v, not %v", x.n, e, x.e)
		}
		refused(t, x.n, 0, x.e)
	}
	// One less high is a program, and its name is nobody's.
	refused(t, block(expr(high.Kids[0])), 7, api.ErrName)
}

// P8.1: the place is the At of the node, whatever number that is.
func TestPlaces(t *testing.T) {
	for _, at := range []int{0, 1, -1, 1999, 2000, 1 << 40, -1 << 63, 1<<63 - 1} {
		refused(t, block(expr(name("a", at))), at, api.ErrName)
		refused(t, block(api.Node{Kind: api.SAssign, S: "a", At: at, Kids: []api.Node{name("b", 3)}}), at, api.ErrName)
		refused(t, block(let("a", 3), let("a", at)), at, api.ErrTwice)
		refused(t, block(expr(fn(at, []string{"a", "a"}, let("b", 3), let("b", 4)))), at, api.ErrTwice)
		refused(t, block(expr(fn(3, []string{"a"}, let("a", at)))), at, api.ErrTwice)
	}
	// Order is the tree's: places do not say what is ahead.
	refused(t, block(let("a", 9), let("a", 4), let("a", 1)), 4, api.ErrTwice)
	refused(t, block(expr(name("b", 9)), expr(name("a", 1))), 9, api.ErrName)
	u, _, e := scope.Resolve(block(let("a", 9), let("b", 4), expr(fn(8, nil)), expr(fn(2, nil, expr(name("b", 0))))))
	if e != api.OK || !slices.Equal(told(t, u), []string{"2", "0 0: g0 = null; g1 = null; f1; f2;", "0 0: ", "0 0: g1;"}) {
		t.Errorf("it is %v, %v", u, e)
	}
}

// rowsOfFns are programs of just as many EFns, in several orders; the last one that begins is at last, and has those parameters.
func rowsOfFns(n, last int, params ...string) []api.Node {
	var row, nested []api.Node
	for i := range n {
		f := fn(100+i, nil)
		if i == n-1 {
			f = fn(last, params)
		}
		row = append(row, expr(f))
		if i < n-2 || i == n-1 {
			nested = append(nested, f)
		}
	}
	// The last one stands within another, which began ahead of it.
	within := fn(50, nil, expr(nested[len(nested)-1]))
	nested[len(nested)-1] = within
	var calls []api.Node
	for len(nested) > 0 {
		some := min(7, len(nested))
		calls = append(calls, expr(api.Node{Kind: api.ECall, Kids: nested[:some]}))
		nested = nested[some:]
	}
	all := block(row...)
	inOne := fn(51, nil, row[1:]...)
	return []api.Node{all, block(calls...), block(expr(inOne)), block(api.Node{Kind: api.SWhile, Kids: []api.Node{null(), all}})}
}

// P8.1: 32 functions may be, the whole among them; the EFn of one more is ErrFull, ahead of its own faults.
func TestMostFns(t *testing.T) {
	for _, n := range rowsOfFns(31, 77) {
		u, _, e := scope.Resolve(n)
		if e != api.OK || len(u.Fns) != 32 || scope.Check(u) != api.OK {
			t.Errorf("Resolve(%v) is %v, %v", n, u, e)
		}
	}
	for _, n := range rowsOfFns(31, 77, "a", "b", "a") {
		refused(t, n, 77, api.ErrTwice)
	}
	for _, n := range rowsOfFns(32, 77) {
		refused(t, n, 77, api.ErrFull)
	}
	for _, n := range rowsOfFns(32, 77, "a", "a") {
		refused(t, n, 77, api.ErrFull)
	}
	// The one that is too many is not asked for its names; what is ahead of it is.
	rest := rowsOfFns(31, 77)[0].Kids
	refused(t, block(append(slices.Clone(rest), expr(fn(5, nil, expr(name("a", 6)))))...), 5, api.ErrFull)
	refused(t, block(append(slices.Clone(rest), expr(name("a", 6)), expr(fn(5, nil)))...), 6, api.ErrName)
	refused(t, block(append(slices.Clone(rest), expr(fn(5, nil)), let("a", 6), let("a", 7))...), 7, api.ErrTwice)
	refused(t, block(append(slices.Clone(rest), expr(fn(5, nil)), expr(fn(6, nil)))...), 5, api.ErrFull)
}

// P8.1: 24 names may be declared in a function, parameters among them, and in the whole; the SLet of one more is ErrFull.
func TestMostNames(t *testing.T) {
	for params := range 7 {
		p := several("p", params)
		own := several("v", 25-params)
		most, more := lets(own[:24-params], 100), lets(own, 100)
		around := lets(several("p", 24), 300)
		for _, whole := range [][]api.Node{nil, around} {
			u, _, e := scope.Resolve(block(append(slices.Clone(whole), expr(fn(1, p, most...)))...))
			if e != api.OK || len(u.Fns) != 2 || u.Fns[1].Params != params || u.Fns[1].Locals != 24 || scope.Check(u) != api.OK {
				t.Errorf("with %d parameters it is %v, %v", params, u, e)
			}
			refused(t, block(append(slices.Clone(whole), expr(fn(1, p, more...)))...), 124-params, api.ErrFull)
			// What is declared already is ErrTwice, room or not.
			twice := append(slices.Clone(most), let(own[0], 7), let("w", 8))
			refused(t, block(append(slices.Clone(whole), expr(fn(1, p, twice...)))...), 7, api.ErrTwice)
			twice = append(slices.Clone(most), let("w", 8), let(own[0], 7))
			refused(t, block(append(slices.Clone(whole), expr(fn(1, p, twice...)))...), 8, api.ErrFull)
			if params > 0 {
				refused(t, block(append(slices.Clone(whole), expr(fn(1, p, append(slices.Clone(most), let("p0", 9))...)))...), 9, api.ErrTwice)
			}
		}
	}
	own := several("v", 25)
	u, _, e := scope.Resolve(block(lets(own[:24], 100)...))
	if e != api.OK || u.Globals != 24 || scope.Check(u) != api.OK || u.Fns[0].Body[23].N != 23 {
		t.Errorf("with 24 globals it is %v, %v", u, e)
	}
	refused(t, block(lets(own, 100)...), 124, api.ErrFull)
	refused(t, block(append(lets(own[:24], 100), let("v3", 9), let("w", 8))...), 9, api.ErrTwice)
	// Those in blocks count as well, those in functions do not.
	inBlock := api.Node{Kind: api.SIf, Kids: []api.Node{null(), block(lets(own[:12], 100)...), block(lets(own[12:24], 200)...)}}
	if u, _, e := scope.Resolve(block(inBlock, expr(fn(1, nil, lets(own[:24], 100)...)), expr(name("v23", 1)))); e != api.OK || u.Globals != 24 || u.Fns[1].Locals != 24 {
		t.Errorf("it is %v, %v", u, e)
	}
	refused(t, block(inBlock, let("w", 5)), 5, api.ErrFull)
	// Ahead of what is within.
	refused(t, block(append([]api.Node{expr(fn(1, []string{"a", "a"}))}, lets(own, 100)...)...), 124, api.ErrFull)
}

// P8.1, R3: what is handed in is not changed, its spare room included, and what is answered is new.
func TestResolveIsNew(t *testing.T) {
	const s = "let o = {x: 1, y: {}}; fn(a, b) { let c = {z: a}; if (c) { return o.x(b, fn() { o = 1; }); } }; while (o) { o = 2; }"
	n := roomy(read(t, s))
	before := copied(n)
	u, _, e := scope.Resolve(n)
	if e != api.OK || !reflect.DeepEqual(n, before) || !isRoomy(n) {
		t.Fatalf("Resolve(%q) is %v, and changed it", s, e)
	}
	again, _, _ := scope.Resolve(n)
	want := bareUnit(u)
	spoil([]api.Node{n})
	if !reflect.DeepEqual(bareUnit(u), want) {
		t.Error("the unit has memory of its program")
	}
	// No two lists of it share memory, not even with what is behind their ends.
	for i := range again.Fns {
		for _, p := range flat(again.Fns[i].Body) {
			_ = append(p.Kids, api.Node{Kind: -7})
			_ = append(p.Names, "spoilt")
		}
		_ = append(again.Fns[i].Body, api.Node{Kind: -7})
	}
	if !reflect.DeepEqual(bareUnit(again), want) {
		t.Error("lists of one answer share memory")
	}
	for i := range again.Fns {
		spoil(again.Fns[i].Body)
	}
	if !reflect.DeepEqual(bareUnit(u), want) {
		t.Error("two answers share memory")
	}
}
