package parse_test

import (
	"slices"
	"strconv"
	"strings"
	"testing"

	"proteus/api"
	"proteus/parse"
	"proteus/tree"
)

func name(s string, at int) api.Node { return api.Node{Kind: api.EName, S: s, At: at} }
func whole(n int) api.Node           { return api.Node{Kind: api.EInt, N: n} }
func null() api.Node                 { return api.Node{Kind: api.ENull} }
func not(a api.Node) api.Node        { return api.Node{Kind: api.EUn, Op: api.Not, Kids: []api.Node{a}} }
func neg(a api.Node) api.Node        { return api.Node{Kind: api.EUn, Op: api.Neg, Kids: []api.Node{a}} }
func block(l ...api.Node) api.Node   { return api.Node{Kind: api.SBlock, Kids: l} }
func stmt(e api.Node) api.Node       { return node(api.SExpr, "", e) }

// node is one of Kids, and of S where its kind has that.
func node(kind int, s string, kids ...api.Node) api.Node {
	return api.Node{Kind: kind, S: s, Kids: kids}
}

// at is a node at another place.
func at(n api.Node, place int) api.Node {
	n.At = place
	return n
}

func built(op int, kids ...api.Node) api.Node {
	return api.Node{Kind: api.EBuilt, Op: op, Kids: kids}
}

func object(names []string, kids ...api.Node) api.Node {
	return api.Node{Kind: api.EObj, Names: names, Kids: kids}
}

func function(at int, names []string, kids ...api.Node) api.Node {
	return api.Node{Kind: api.EFn, Names: names, Kids: kids, At: at}
}

// between is two with a sign between them.
func between(a api.Node, sign string, b api.Node) api.Node {
	n := joined(sign)
	n.Kids = []api.Node{a, b}
	return n
}

// alike asks it of all fields, At among them.
func alike(a, b api.Node) bool {
	return a.At == b.At && tree.Same(a, b) && slices.EqualFunc(a.Kids, b.Kids, alike)
}

func isNothing(t *testing.T, s string, n api.Node) {
	t.Helper()
	if !alike(n, api.Node{}) {
		t.Errorf("%q is refused, and %v is told", s, n)
	}
}

func parses(t *testing.T, s string, l ...api.Node) {
	t.Helper()
	n, at, e := parse.Parse(s)
	if !alike(n, block(l...)) || at != 0 || e != api.OK {
		t.Errorf("Parse(%q) is %v, %d, %v; not %v", s, n, at, e, l)
	}
	if c := tree.Check(n); c != api.OK {
		t.Errorf("Check of Parse(%q) is %v", s, c)
	}
}

func isExpr(t *testing.T, s string, want api.Node) {
	t.Helper()
	if n, at, e := parse.Expr(s); !alike(n, want) || at != 0 || e != api.OK {
		t.Errorf("Expr(%q) is %v, %d, %v; not %v", s, n, at, e, want)
	}
	parses(t, s+";", stmt(want))
}

func refused(t *testing.T, s string, at int, e api.Errno) {
	t.Helper()
	n, gotAt, got := parse.Parse(s)
	if gotAt != at || got != e {
		t.Errorf("Parse(%q) is %v, %d, %v; not refused at %d with %v", s, n, gotAt, got, at, e)
	}
	isNothing(t, s, n)
}

func refusedExpr(t *testing.T, s string, at int, e api.Errno) {
	t.Helper()
	n, gotAt, got := parse.Expr(s)
	if gotAt != at || got != e {
		t.Errorf("Expr(%q) is %v, %d, %v; not refused at %d with %v", s, n, gotAt, got, at, e)
	}
	isNothing(t, s, n)
}

// readsAgain holds a program against itself, printed and read, where it is not too long.
func readsAgain(t *testing.T, n api.Node) {
	t.Helper()
	s, e := tree.Print(n)
	if e == api.ErrLong {
		return
	}
	got, _, f := parse.Parse(s)
	if e != api.OK || f != api.ErrFull && (f != api.OK || !tree.Same(got, n)) {
		t.Fatalf("%v is printed as %q, %v, and read as %v, %v", n, s, e, got, f)
	}
}

// P7.1: each statement.
func TestStatements(t *testing.T) {
	parses(t, "")
	parses(t, "a;", stmt(name("a", 0)))
	parses(t, "let b = 1;", at(node(api.SLet, "b", whole(1)), 4))
	parses(t, "b = 1;", node(api.SAssign, "b", whole(1)))
	parses(t, "print 1;", node(api.SPrint, "", whole(1)))
	parses(t, "return 1;", node(api.SReturn, "", whole(1)))
	parses(t, "a.x = 1;", node(api.SSet, "x", name("a", 0), whole(1)))
	parses(t, "a[2] = 1;", node(api.SSetIx, "", name("a", 0), whole(2), whole(1)))
	parses(t, "delete a.x;", node(api.SDel, "x", name("a", 7)))
	parses(t, "delete a[2];", node(api.SDelIx, "", name("a", 7), whole(2)))
	parses(t, "while (a) {}", node(api.SWhile, "", name("a", 7), block()))
	parses(t, "while (a) { 1; 2; }", node(api.SWhile, "", name("a", 7), block(stmt(whole(1)), stmt(whole(2)))))
	parses(t, "1; 2; 3;", stmt(whole(1)), stmt(whole(2)), stmt(whole(3)))
	parses(t, "a; if (b) {} c;", stmt(name("a", 0)), node(api.SIf, "", name("b", 7), block(), block()), stmt(name("c", 13)))
}

// P7.1: an if with and without else.
func TestIf(t *testing.T) {
	one, two := block(stmt(whole(1))), block(stmt(whole(2)))
	parses(t, "if (a) {}", node(api.SIf, "", name("a", 4), block(), block()))
	parses(t, "if (a) {} else {}", node(api.SIf, "", name("a", 4), block(), block()))
	parses(t, "if (a) { 1; }", node(api.SIf, "", name("a", 4), one, block()))
	parses(t, "if (a) { 1; } else { 2; }", node(api.SIf, "", name("a", 4), one, two))
	parses(t, "if (a) {} else { 2; }", node(api.SIf, "", name("a", 4), block(), two))
	inner := node(api.SIf, "", name("b", 13), one, two)
	parses(t, "if (a) { if (b) { 1; } else { 2; } }", node(api.SIf, "", name("a", 4), block(inner), block()))
	parses(t, "if (a) { if (b) { 1; } } else { 2; }", node(api.SIf, "", name("a", 4), block(node(api.SIf, "", name("b", 13), one, block())), two))
	refused(t, "if (a) {} else if (b) {}", 15, api.ErrSay)
	refused(t, "if (a) {} else {} else {}", 18, api.ErrSay)
	refused(t, "if (a) {} 1; else {}", 13, api.ErrSay)
}

// P7.1: places are chosen from all that may stand ahead of a "=".
func TestPlaces(t *testing.T) {
	a, one, two := name("a", 0), whole(1), whole(2)
	call := node(api.EMeth, "f", a, one)
	parses(t, "a.f(1).x = 2;", node(api.SSet, "x", call, two))
	parses(t, "a.f(1)[1] = 2;", node(api.SSetIx, "", call, one, two))
	parses(t, "a.x.y = 2;", node(api.SSet, "y", node(api.EGet, "x", a), two))
	parses(t, "a[1].y = 2;", node(api.SSet, "y", node(api.EIndex, "", a, one), two))
	parses(t, "a(1).x = 2;", node(api.SSet, "x", node(api.ECall, "", a, one), two))
	parses(t, "(a).x = 2;", node(api.SSet, "x", name("a", 1), two))
	parses(t, "(a.x).y = 2;", node(api.SSet, "y", node(api.EGet, "x", name("a", 1)), two))
	parses(t, "(a.x)[1] = 2;", node(api.SSetIx, "", node(api.EGet, "x", name("a", 1)), one, two))
	parses(t, "(1 + 2).x = 2;", node(api.SSet, "x", between(one, "+", two), two))
	parses(t, "(-1)[2] = 2;", node(api.SSetIx, "", neg(one), two, two))
	parses(t, "1.x = 2;", node(api.SSet, "x", one, two))
	parses(t, "{}.x = 2;", node(api.SSet, "x", object(nil), two))
	parses(t, "fn() {}.x = 2;", node(api.SSet, "x", function(0, nil), two))
	parses(t, "str(1)[2] = 2;", node(api.SSetIx, "", built(api.BStr, one), two, two))
	parses(t, `a[")"] = 2;`, node(api.SSetIx, "", a, api.Node{Kind: api.EStr, S: ")"}, two))
	parses(t, "a[(1)] = (2);", node(api.SSetIx, "", a, one, two))
	parses(t, "delete (a).x;", node(api.SDel, "x", name("a", 8)))
	parses(t, "delete a.f(1).x;", node(api.SDel, "x", node(api.EMeth, "f", name("a", 7), one)))
	parses(t, "delete (1 + 2)[1];", node(api.SDelIx, "", between(one, "+", two), one))
	parses(t, "a = b == 1;", node(api.SAssign, "a", between(name("b", 4), "==", one)))
}

// P7.1: what is no place.
func TestNoPlaces(t *testing.T) {
	for _, s := range []string{
		"(a)", "(a.x)", "(a[1])", "((a))", "((a).x)", "a()", "a.f(1)", "a.x()", "(a.f)(1)", "1", `"a"`, `")"`, "null", "true", "false", "this", "{}", "{x: 1}", "fn() {}", "str(a)",
		"-a", "!a", "-a.x", "!a[1]", "a + b", "a + b.x", "a.x + b", "a.x * b[1]", "a && b.x", "a || b", "a || b.x", "a == b.x", "a < b[1]", "a.x(1)", "a[1](2)",
	} {
		refused(t, s+" = 1;", len(s)+1, api.ErrSay)
		refused(t, "f(fn() { "+s+" = 1; });", len(s)+10, api.ErrSay)
	}
	for _, s := range []string{"a", "(a)", "(a.x)", "(a[1])", "a()", "a.f(1)", "(a.f)(1)", "a.x.f()", "1", `"a"`, "null", "this", "{}", "{x: 1}", "fn() {}", "key(a, b)", "((a.x))"} {
		refused(t, "delete "+s+";", len(s)+7, api.ErrSay)
		refused(t, "delete "+s+" + 1;", len(s)+8, api.ErrSay)
		refused(t, "delete "+s+" = 1;", len(s)+8, api.ErrSay)
		refused(t, "delete "+s, len(s)+7, api.ErrSay)
	}
	for _, s := range []string{"a.x", "a[1]", "(a).x"} {
		for _, more := range []string{"= 1;", "+ 1;", "== 1;", "&& b;", ", b;", "a;", "1;", "}"} {
			refused(t, "delete "+s+" "+more, len(s)+8, api.ErrSay)
		}
	}
	for _, s := range []string{"-a.x", "!a.x", ";", ".x", "[1]", "print a.x", "let a", "= a", "", "delete a.x"} {
		refused(t, "delete "+s, 7, api.ErrSay)
	}
	refused(t, "a = b = 1;", 6, api.ErrSay)
	refused(t, "a.x = b.x = 1;", 10, api.ErrSay)
	refused(t, "let a = b = 1;", 10, api.ErrSay)
	refused(t, "print a = 1;", 8, api.ErrSay)
	refused(t, "return a.x = 1;", 11, api.ErrSay)
	refused(t, "if (a = 1) {}", 6, api.ErrSay)
	refused(t, "f(a = 1);", 4, api.ErrSay)
	refusedExpr(t, "a = 1", 2, api.ErrSay)
	refusedExpr(t, "a.x = 1", 4, api.ErrSay)
}

// P7.1: Expr of each kind of expression, and each as a statement.
func TestExprs(t *testing.T) {
	a, one := name("a", 0), whole(1)
	isExpr(t, "null", null())
	isExpr(t, "this", api.Node{Kind: api.EThis})
	isExpr(t, "false", api.Node{Kind: api.EBool})
	isExpr(t, "true", api.Node{Kind: api.EBool, N: 1})
	isExpr(t, "0", whole(0))
	isExpr(t, "007", whole(7))
	isExpr(t, "4611686018427387903", whole(1<<62-1))
	isExpr(t, `"a\"\x00"`, api.Node{Kind: api.EStr, S: "a\"\x00"})
	isExpr(t, `"`+strings.Repeat("a", 256)+`"`, api.Node{Kind: api.EStr, S: strings.Repeat("a", 256)})
	isExpr(t, "abcdefghijkl", name("abcdefghijkl", 0))
	isExpr(t, "{}", object(nil))
	isExpr(t, "{x: 1}", object([]string{"x"}, one))
	isExpr(t, "{if: 1, x: a, x: {}}", object([]string{"if", "x", "x"}, one, name("a", 11), object(nil)))
	isExpr(t, "fn() {}", function(0, nil))
	isExpr(t, "fn(a) { return a; }", function(0, []string{"a"}, node(api.SReturn, "", name("a", 15))))
	isExpr(t, "fn(a, b, a) { 1; 1; }", function(0, []string{"a", "b", "a"}, stmt(one), stmt(one)))
	isExpr(t, "-a", neg(name("a", 1)))
	isExpr(t, "!a", not(name("a", 1)))
	isExpr(t, "a.x", node(api.EGet, "x", a))
	isExpr(t, "a[1]", node(api.EIndex, "", a, one))
	isExpr(t, "a()", node(api.ECall, "", a))
	isExpr(t, "a(1, 1)", node(api.ECall, "", a, one, one))
	isExpr(t, "a.x()", node(api.EMeth, "x", a))
	isExpr(t, "a.x(1, 1)", node(api.EMeth, "x", a, one, one))
	isExpr(t, "(a)", name("a", 1))
	for i, s := range strings.Fields("count key has proto setproto len str") {
		if s == "key" || s == "has" || s == "setproto" {
			isExpr(t, s+"(1, null)", built(i+1, one, null()))
			refused(t, s+"(1)", len(s)+2, api.ErrSay)
			refused(t, s+"(1, 2, 3)", len(s)+5, api.ErrSay)
		} else {
			isExpr(t, s+"(1)", built(i+1, one))
			refused(t, s+"(1, 2)", len(s)+2, api.ErrSay)
		}
		refused(t, s+"()", len(s)+1, api.ErrSay)
		refused(t, s+";", len(s), api.ErrSay)
		refused(t, s+".x;", len(s), api.ErrSay)
	}
	for _, s := range signs() {
		isExpr(t, "1 "+s+" null", between(one, s, null()))
	}
}

// P7.1: what Expr takes is one expression, and nothing behind it.
func TestExprsThatAreNone(t *testing.T) {
	refusedExpr(t, "", 0, api.ErrSay)
	refusedExpr(t, " // a\n", 6, api.ErrSay)
	refusedExpr(t, "a b", 2, api.ErrSay)
	refusedExpr(t, "a;", 1, api.ErrSay)
	refusedExpr(t, "(a))", 3, api.ErrSay)
	refusedExpr(t, "a.x y", 4, api.ErrSay)
	refusedExpr(t, "{} {}", 3, api.ErrSay)
	refusedExpr(t, "a, b", 1, api.ErrSay)
	refusedExpr(t, "a -", 3, api.ErrSay)
	refusedExpr(t, "let a = 1", 0, api.ErrSay)
	refusedExpr(t, "print a", 0, api.ErrSay)
	refusedExpr(t, "a @", 2, api.ErrWord)
	refusedExpr(t, "a b @", 4, api.ErrWord)
	refusedExpr(t, strings.Repeat(" ", 2001), 0, api.ErrLong)
	for _, behind := range []string{"1", `"a"`, "a", "null", "}", ")", "]", ":", ",", ";", "=", "!", "{", "fn", "else"} {
		refusedExpr(t, "a "+behind, 2, api.ErrSay)
		refusedExpr(t, "(a + 1) "+behind+" b", 8, api.ErrSay)
	}
}

// P7.1: each pair of signs, with and without brackets; of one rank from the left on.
func TestPairsOfSigns(t *testing.T) {
	for _, x := range signs() {
		for _, y := range signs() {
			// The places of b and c hang on where brackets stand.
			at := func(s, of string) api.Node { return name(of, strings.Index(s, of)) }
			left := func(s string) api.Node {
				return between(between(at(s, "a"), x, at(s, "b")), y, at(s, "c"))
			}
			right := func(s string) api.Node {
				return between(at(s, "a"), x, between(at(s, "b"), y, at(s, "c")))
			}
			plain := "a " + x + " b " + y + " c"
			if ranks()[x] >= ranks()[y] {
				isExpr(t, plain, left(plain))
			} else {
				isExpr(t, plain, right(plain))
			}
			one, two := "(a "+x+" b) "+y+" c", "a "+x+" (b "+y+" c)"
			isExpr(t, one, left(one))
			isExpr(t, two, right(two))
			isExpr(t, "(("+one+"))", left("(("+one+"))"))
		}
	}
}

// P7.1: signs over one are tighter than those between two, and looser than what stands behind an atom.
func TestSignsOverOne(t *testing.T) {
	one, two := whole(1), whole(2)
	for _, x := range signs() {
		isExpr(t, "-1 "+x+" 2", between(neg(one), x, two))
		isExpr(t, "1 "+x+" -2", between(one, x, neg(two)))
		isExpr(t, "!1 "+x+" !-2", between(not(one), x, not(neg(two))))
		isExpr(t, "-(1 "+x+" 2)", neg(between(one, x, two)))
		isExpr(t, "1 "+x+" 2.x", between(one, x, node(api.EGet, "x", two)))
		isExpr(t, "(1 "+x+" 2).x", node(api.EGet, "x", between(one, x, two)))
		isExpr(t, "(1 "+x+" 2)(1)", node(api.ECall, "", between(one, x, two), one))
		isExpr(t, "(1 "+x+" 2)[1]", node(api.EIndex, "", between(one, x, two), one))
		refused(t, "1 "+x+";", len(x)+2, api.ErrSay)
		if x != "-" {
			refused(t, x+" 1;", 0, api.ErrSay)
			refused(t, "1 "+x+" "+x+" 2;", len(x)+3, api.ErrSay)
		}
	}
	isExpr(t, "--1", neg(neg(one)))
	isExpr(t, "!!1", not(not(one)))
	isExpr(t, "- - - 1", neg(neg(neg(one))))
	isExpr(t, "1--2", between(one, "-", neg(two)))
	isExpr(t, "-1.x", neg(node(api.EGet, "x", one)))
	isExpr(t, "-1[2]", neg(node(api.EIndex, "", one, two)))
	isExpr(t, "!1(2)", not(node(api.ECall, "", one, two)))
	isExpr(t, "!1.x(2)", not(node(api.EMeth, "x", one, two)))
	isExpr(t, "(-1).x", node(api.EGet, "x", neg(one)))
	isExpr(t, "(!1)(2)", node(api.ECall, "", not(one), two))
	refused(t, "1!;", 1, api.ErrSay)
	refused(t, "1 ! 2;", 2, api.ErrSay)
	refused(t, "+1;", 0, api.ErrSay)
	refused(t, "-;", 1, api.ErrSay)
}

// P7.1: rows of signs of all ranks.
func TestRowsOfSigns(t *testing.T) {
	n := func(i int) api.Node { return whole(i) }
	isExpr(t, "1 || 2 && 3 == 4 < 5 + 6 * 7",
		between(n(1), "||", between(n(2), "&&", between(n(3), "==", between(n(4), "<", between(n(5), "+", between(n(6), "*", n(7))))))))
	isExpr(t, "1 * 2 + 3 < 4 == 5 && 6 || 7",
		between(between(between(between(between(between(n(1), "*", n(2)), "+", n(3)), "<", n(4)), "==", n(5)), "&&", n(6)), "||", n(7)))
	isExpr(t, "1 * 2 + 3 * 4 - 5", between(between(between(n(1), "*", n(2)), "+", between(n(3), "*", n(4))), "-", n(5)))
	isExpr(t, "1 < 2 == 3 < 4", between(between(n(1), "<", n(2)), "==", between(n(3), "<", n(4))))
	for _, x := range signs() {
		want, s := n(0), "0"
		for i := 1; i < 11; i++ {
			want, s = between(want, x, n(i)), s+x+strconv.Itoa(i)
		}
		if got, _, e := parse.Expr(s); e != api.OK || !alike(got, want) {
			t.Errorf("Expr(%q) is %v, %v", s, got, e)
		}
	}
}

// P7.1: a "." PROP with a "(" straight behind it, and with brackets around it.
func TestMethods(t *testing.T) {
	a, one, two := name("a", 0), whole(1), whole(2)
	isExpr(t, "a.f(1)", node(api.EMeth, "f", a, one))
	isExpr(t, "a.f (1)", node(api.EMeth, "f", a, one))
	isExpr(t, "a . f // f\n\t(1)", node(api.EMeth, "f", a, one))
	isExpr(t, "(a.f)(1)", node(api.ECall, "", node(api.EGet, "f", name("a", 1)), one))
	isExpr(t, "((a.f))(1)", node(api.ECall, "", node(api.EGet, "f", name("a", 2)), one))
	isExpr(t, "(a.f(1))", node(api.EMeth, "f", name("a", 1), one))
	isExpr(t, "(a).f(1)", node(api.EMeth, "f", name("a", 1), one))
	isExpr(t, "a.f(1)(2)", node(api.ECall, "", node(api.EMeth, "f", a, one), two))
	isExpr(t, "a.f.g(1)", node(api.EMeth, "g", node(api.EGet, "f", a), one))
	isExpr(t, "a.f(1).g(2)", node(api.EMeth, "g", node(api.EMeth, "f", a, one), two))
	isExpr(t, "a[1](2)", node(api.ECall, "", node(api.EIndex, "", a, one), two))
	isExpr(t, "a.f[1](2)", node(api.ECall, "", node(api.EIndex, "", node(api.EGet, "f", a), one), two))
	isExpr(t, "a(1)(2).x", node(api.EGet, "x", node(api.ECall, "", node(api.ECall, "", a, one), two)))
	isExpr(t, "a(1)[2].x(1)", node(api.EMeth, "x", node(api.EIndex, "", node(api.ECall, "", a, one), two), one))
	isExpr(t, "fn() {}(1)", node(api.ECall, "", function(0, nil), one))
	isExpr(t, "{f: 1}.f(2)", node(api.EMeth, "f", object([]string{"f"}, one), two))
	isExpr(t, "1.x", node(api.EGet, "x", one))
	refused(t, "a.(f)(1);", 2, api.ErrSay)
	refused(t, "a.1;", 2, api.ErrSay)
	refused(t, `a."x";`, 2, api.ErrSay)
	refused(t, "a..x;", 2, api.ErrSay)
	refused(t, "a[];", 2, api.ErrSay)
	refused(t, "a[1, 2];", 3, api.ErrSay)
	refused(t, "a(,);", 2, api.ErrSay)
	refused(t, "a(1,);", 4, api.ErrSay)
	refused(t, "a(1 2);", 4, api.ErrSay)
}

// P7.1: the At of each node, and of no other.
func TestAt(t *testing.T) {
	parses(t, " let ab = cd;x = fn() {};",
		at(node(api.SLet, "ab", name("cd", 10)), 5), at(node(api.SAssign, "x", function(17, nil)), 13))
	parses(t, "\n// a b\na ; (a);(\t(b)) ;", stmt(name("a", 8)), stmt(name("a", 13)), stmt(name("b", 19)))
	parses(t, "  print  1 + a;", node(api.SPrint, "", between(whole(1), "+", name("a", 13))))
	parses(t, "  b.x = a.x;", node(api.SSet, "x", name("b", 2), node(api.EGet, "x", name("a", 8))))
	parses(t, "  b[c] = this;", node(api.SSetIx, "", name("b", 2), name("c", 4), api.Node{Kind: api.EThis}))
	parses(t, "  delete b.x; delete b[c];", node(api.SDel, "x", name("b", 9)), node(api.SDelIx, "", name("b", 21), name("c", 23)))
	parses(t, "  if (a) { let a = {a: a}; } else { while (b) { c; } }", node(api.SIf, "", name("a", 6),
		block(at(node(api.SLet, "a", object([]string{"a"}, name("a", 23))), 15)),
		block(node(api.SWhile, "", name("b", 43), block(stmt(name("c", 48)))))))
	parses(t, "  return fn(a, b) { return fn() { a = b; }; };", node(api.SReturn, "", function(9, []string{"a", "b"},
		node(api.SReturn, "", function(27, nil, at(node(api.SAssign, "a", name("b", 38)), 34))))))
	parses(t, "  a.f(b, -c)(!d)[key(e, null)];", stmt(node(api.EIndex, "",
		node(api.ECall, "", node(api.EMeth, "f", name("a", 2), name("b", 6), neg(name("c", 10))), not(name("d", 14))),
		built(api.BKey, name("e", 21), null()))))
	isExpr(t, "  a && (b || c)", between(name("a", 2), "&&", between(name("b", 8), "||", name("c", 13))))
	isExpr(t, ` "a" + 1 `, between(api.Node{Kind: api.EStr, S: "a"}, "+", whole(1)))
	isExpr(t, " { } ", object(nil))
}

// P7.1: blanks and remarks between tokens change the places alone.
func TestBlanks(t *testing.T) {
	for _, s := range samples() {
		want, _, _ := parse.Parse(s)
		for _, gap := range []string{" ", "\n", "\t", " \n\t ", " //\n", "\t// ) @ \"\n", "\n// a\n// b;\n"} {
			wide := strings.NewReplacer(" ", gap, ";", gap+";"+gap, "(", gap+"("+gap, ")", gap+")"+gap, "{", "{"+gap, ".", gap+"."+gap, ",", gap+",").Replace(s)
			if n, at, e := parse.Parse(gap + wide + gap); e != api.OK || at != 0 || !tree.Same(n, want) {
				t.Errorf("Parse(%q) is %v, %d, %v; not %v", gap+wide+gap, n, at, e, want)
			}
		}
	}
	parses(t, "if(a){}else{}", node(api.SIf, "", name("a", 3), block(), block()))
	parses(t, "leta=1;", node(api.SAssign, "leta", whole(1)))
	parses(t, "// print 1;")
	parses(t, " \n\t")
}
