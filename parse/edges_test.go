package parse_test

import (
	"slices"
	"strings"
	"testing"

	"proteus/api"
	"proteus/parse"
	"proteus/tree"
)

// rows are lists of the grammar: what stands ahead of the parts, one of them, what is between and behind, and how many there may be.
func rows() []struct {
	ahead, one, between, behind string
	most                        int
} {
	return []struct {
		ahead, one, between, behind string
		most                        int
	}{
		{"", "a;", "", "", 40},
		{"", "a;", " ", "", 40},
		{"", "if (a) {} else {}", " ", "", 40},
		{"", "while (a) {}", "", "", 40},
		{"", "let a = 1;", "", "", 40},
		{"", "{};", "", "", 40},
		{"if (a) {", "a;", "", "}", 40},
		{"if (a) {} else {", "b = 1;", "", "}", 40},
		{"while (a) {", "a;", " ", "}", 40},
		{"fn(a) {", "a;", "", "};", 40},
		{"a({", "x: 1", ",", "});", 40},
		{"a = {", "if: {}", ",", "};", 40},
		{"f(", "a", ", ", ");", 6},
		{"f(1)(", "fn() {}", ",", ");", 6},
		{"a.f(", "1", ",", ");", 6},
		{"a = b.c.f(", "{}", ",", ").x;", 6},
		{"fn(", "a", ",", ") {};", 6},
		{"f(fn(", "_", ", ", ") { return 1; });", 6},
	}
}

// P7.1: lists with as many parts as they may have, and with one more, which can't stand from its comma or its first token on.
func TestLists(t *testing.T) {
	for _, r := range rows() {
		list := func(n int) string { return strings.Join(slices.Repeat([]string{r.one}, n), r.between) }
		for _, n := range []int{0, 1, 2, r.most - 1, r.most} {
			s := r.ahead + list(n) + r.behind
			if p, at, e := parse.Parse(s); e != api.OK || at != 0 || tree.Check(p) != api.OK {
				t.Errorf("Parse(%q) is %v, %d, %v", s, p, at, e)
			}
		}
		for _, n := range []int{r.most + 1, r.most + 2} {
			place := len(r.ahead + list(r.most))
			if r.between == " " {
				place++
			}
			refused(t, r.ahead+list(n)+r.behind, place, api.ErrSay)
			refused(t, r.ahead+list(n), place, api.ErrSay)
		}
		if strings.Contains(r.between, ",") {
			refused(t, r.ahead+list(r.most)+","+r.behind, len(r.ahead+list(r.most)), api.ErrSay)
			refused(t, r.ahead+list(2)+","+r.behind, len(r.ahead+list(2))+1, api.ErrSay)
			refused(t, r.ahead+","+r.behind, len(r.ahead), api.ErrSay)
		}
	}
}

// P7.1: lists of lists: each counts for itself.
func TestListsInLists(t *testing.T) {
	a := name("a", 0)
	p, _, e := parse.Parse("f(" + strings.Repeat("g(1, 2, 3, 4, 5, 6), ", 5) + "g(1, 2, 3, 4, 5, 6));")
	if e != api.OK || len(p.Kids[0].Kids[0].Kids) != 7 || len(p.Kids[0].Kids[0].Kids[6].Kids) != 7 {
		t.Error(p, e)
	}
	full := strings.Repeat("a;", 40)
	for _, s := range []string{"if (a) {" + full + "} else {" + full + "}", "fn() {" + full + "};" + full[2:], full[2:] + "while (a) {" + full + "}"} {
		if p, at, e := parse.Parse(s); e != api.OK || at != 0 {
			t.Errorf("Parse(%q) is %v, %d, %v", s, p, at, e)
		}
	}
	refused(t, full+"if (a) {"+full+"}", 80, api.ErrSay)
	refused(t, full+"}", 80, api.ErrSay)
	refused(t, full+"else", 80, api.ErrSay)
	parses(t, strings.Repeat("1;", 39)+"if (a) {} else {}",
		append(slices.Repeat([]api.Node{stmt(whole(1))}, 39), node(api.SIf, "", at(a, 82), block(), block()))...)
}

// nests are ways to stand within another: a text ahead, one behind, and by how many nodes that is higher.
func nests() []struct {
	ahead, behind string
	more          int
} {
	return []struct {
		ahead, behind string
		more          int
	}{
		{"!", "", 1}, {"-", "", 1}, {"1 + (", ")", 1}, {"(", ") + 1", 1}, {"1 && (", ")", 1}, {"(", ") || 1", 1}, {"(", ").x", 1}, {"(", ")[1]", 1}, {"1[", "]", 1},
		{"(", ")(1)", 1}, {"f(", ")", 1}, {"f(1, ", ", 1)", 1}, {"(", ").f(1)", 1}, {"a.f(", ")", 1}, {"{x: ", "}", 1}, {"{x: 1, y: ", ", z: 1}", 1},
		{"key(1, ", ")", 1}, {"str(", ")", 1}, {"fn() { ", "; }", 2}, {"fn() { return ", "; }", 2}, {"fn() { a.x = ", "; }", 2},
		{"fn() { if (", ") {} }", 2}, {"fn() { if (a) { ", "; } }", 4}, {"fn() { if (a) {} else { ", "; } }", 4}, {"fn() { while (a) { 1; let a = ", "; } }", 4},
	}
}

// P7.1: heights of 12, and of one more, by each way to stand within another.
func TestHeights(t *testing.T) {
	for _, x := range nests() {
		for _, inner := range []string{"a", "1", "{}", "fn() {}"} {
			for n := range 12 {
				s := strings.Repeat(x.ahead, n) + inner + strings.Repeat(x.behind, n)
				height := 1 + n*x.more
				heightIs(t, s, height, parse.Expr)
				heightIs(t, s+";", height+2, parse.Parse)
				heightIs(t, "print "+s+"; 1;", height+2, parse.Parse)
			}
		}
	}
}

func heightIs(t *testing.T, s string, height int, face func(string) (api.Node, int, api.Errno)) {
	t.Helper()
	n, at, e := face(s)
	if height > 12 && (e != api.ErrDeep || at != 0) || height <= 12 && (e != api.OK || tree.Height(n) != height) {
		t.Errorf("%q, of height %d: %v, %d, %v", s, height, n, at, e)
	}
	if e != api.OK {
		isNothing(t, s, n)
	}
}

// P7.1: brackets have no height of their own, however many there are.
func TestManyBrackets(t *testing.T) {
	for _, n := range []int{1, 12, 13, 100, 299} {
		parses(t, strings.Repeat("(", n)+"a"+strings.Repeat(")", n)+";", stmt(name("a", n)))
		refused(t, strings.Repeat("(", n)+"a"+strings.Repeat(")", n-1)+";", 2*n, api.ErrSay)
		refused(t, strings.Repeat("(", n)+"a"+strings.Repeat(")", n)+" =", 2*n+2, api.ErrSay)
	}
	refused(t, strings.Repeat("(", 600), 600, api.ErrSay)
	refused(t, strings.Repeat("-", 600), 600, api.ErrSay)
	refused(t, strings.Repeat("a[", 300), 600, api.ErrSay)
	refused(t, strings.Repeat("{x:", 200), 600, api.ErrSay)
	refused(t, strings.Repeat("fn(){", 120), 600, api.ErrSay)
	refused(t, strings.Repeat("while(a){", 120), 1080, api.ErrSay)
}

// P7.1: a text that is too high and wrong at once is told by what is wrong.
func TestTooHighAndWrong(t *testing.T) {
	high := strings.Repeat("!", 30) + "a"
	refused(t, high+";", 0, api.ErrDeep)
	refused(t, "1; "+high+"; 2;", 0, api.ErrDeep)
	refusedExpr(t, high, 0, api.ErrDeep)
	refused(t, high, 31, api.ErrSay)
	refused(t, high+"; }", 33, api.ErrSay)
	refused(t, high+"; (a) = 1;", 37, api.ErrSay)
	refused(t, high+" = 1;", 32, api.ErrSay)
	refused(t, high+"; @", 33, api.ErrWord)
	refusedExpr(t, high+";", 31, api.ErrSay)
	refusedExpr(t, high+" &", 32, api.ErrWord)
	refused(t, strings.Repeat("a;", 39)+high+";a;", 110, api.ErrSay)
}

// P7.1: 600 tokens, and one more.
func TestManyTokens(t *testing.T) {
	call := "f(1, 2, 3, 4, 5, 6);" // 15 tokens
	full := strings.Repeat(call, 40)
	if n, at, e := parse.Parse(full); e != api.OK || at != 0 || len(n.Kids) != 40 || tree.Count(n) != 1+40*9 {
		t.Error(n, at, e)
	}
	refused(t, full+"a", 800, api.ErrFull)
	refused(t, "1 "+full, 801, api.ErrFull)
	refused(t, strings.Repeat("}", 600), 0, api.ErrSay)
	refused(t, strings.Repeat("}", 601), 600, api.ErrFull)
	refusedExpr(t, strings.Repeat("+1", 300), 0, api.ErrSay)
	refusedExpr(t, "1"+strings.Repeat("+1", 299)+"-", 600, api.ErrSay)
	refusedExpr(t, "1"+strings.Repeat("+1", 299), 0, api.ErrDeep)
	refusedExpr(t, "1"+strings.Repeat("+1", 300), 600, api.ErrFull)
	parses(t, "a;"+strings.Repeat(" ", 1998), stmt(name("a", 0)))
	refused(t, "a;"+strings.Repeat(" ", 1999), 0, api.ErrLong)
	refused(t, strings.Repeat("}", 2001), 0, api.ErrLong)
}

// P7.1: lex's errors are told ahead of all others, wherever they stand.
func TestErrorsOfTokens(t *testing.T) {
	for _, x := range []struct {
		s  string
		at int
		e  api.Errno
	}{
		{"@", 0, api.ErrWord}, {"&", 0, api.ErrWord}, {`"a`, 2, api.ErrWord}, {`"\q"`, 2, api.ErrWord}, {"abcdefghijklm", 0, api.ErrWord},
		{"4611686018427387904", 0, api.ErrRange}, {`"` + strings.Repeat("a", 257) + `"`, 0, api.ErrLong},
	} {
		for _, ahead := range []string{"", "a; ", "a ", "a b ", "} ", "let 1 ", ") = ", "(a) = 1; ", "delete a; ", "if else ", "f(1, 2, 3, 4, 5, 6, 7); ", strings.Repeat("!", 30) + "a; "} {
			refused(t, ahead+x.s, len(ahead)+x.at, x.e)
			refusedExpr(t, ahead+x.s, len(ahead)+x.at, x.e)
		}
	}
}

// P7.1: a key where a NAME is asked for can't stand; as a PROP it can.
func TestKeysAsNames(t *testing.T) {
	for _, k := range strings.Fields("count delete else false fn has if key len let null print proto return setproto str this true while") {
		refused(t, "let "+k+" = 1;", 4, api.ErrSay)
		refused(t, "fn("+k+") {};", 3, api.ErrSay)
		refused(t, "fn(a, "+k+") {};", 6, api.ErrSay)
		if _, at, e := parse.Parse(k + " = 1;"); e != api.ErrSay || at > len(k)+1 {
			t.Errorf("%s is a name: %d, %v", k, at, e)
		}
		isExpr(t, "a."+k, node(api.EGet, k, name("a", 0)))
		isExpr(t, "a."+k+"(1)", node(api.EMeth, k, name("a", 0), whole(1)))
		isExpr(t, "{"+k+": 1, x: 2, "+k+": 3}", object([]string{k, "x", k}, whole(1), whole(2), whole(3)))
		parses(t, "a."+k+" = 1;", node(api.SSet, k, name("a", 0), whole(1)))
		parses(t, "delete a."+k+";", node(api.SDel, k, name("a", 7)))
	}
	for _, s := range []string{"1", `"a"`, "(", ")", ";", "{", "."} {
		refused(t, "let "+s+" = 1;", 4, api.ErrSay)
		refused(t, "fn(a, "+s+") {};", 6, api.ErrSay)
		refused(t, "a."+s, 2, api.ErrSay)
		refused(t, "{x: 1, "+s+": 2};", 7, api.ErrSay)
	}
}

// P7.1: the first token that can't stand, in each line of the grammar.
func TestFirstWrongTokens(t *testing.T) {
	for _, x := range []struct {
		s  string
		at int
	}{
		{"}", 0}, {"a; }", 3}, {"a", 1}, {"a b", 2}, {";", 0}, {"a;;", 2}, {"{ print 1; }", 8}, {"{ a; }", 3}, {"{ {} }", 2}, {"{}", 2}, {"{x: 1} ", 7},
		{"let", 3}, {"let a", 5}, {"let a =", 7}, {"let a = 1", 9}, {"let 1", 4}, {"let a;", 5}, {"let a == 1;", 6}, {"let a = ;", 8}, {"let a.x = 1;", 5}, {"let a = 1 2;", 10}, {"let a, b;", 5},
		{"print", 5}, {"print 1", 7}, {"print;", 5}, {"print 1 +;", 9}, {"print 1, 2;", 7}, {"print print 1;", 6}, {"return", 6}, {"return;", 6}, {"return a", 8}, {"return return a;", 7},
		{"delete", 6}, {"delete a", 8}, {"delete a.", 9}, {"delete a.x", 10}, {"delete a[", 9}, {"delete a[1", 10}, {"delete a[1]", 11}, {"delete a;", 8}, {"delete a.f(1", 12},
		{"if", 2}, {"if (", 4}, {"if (a", 5}, {"if (a)", 6}, {"if (a) {", 8}, {"if (a) { b", 10}, {"if (a) { b;", 11}, {"if (a) {} else", 14}, {"if (a) {} else {", 16},
		{"if a", 3}, {"if () {}", 4}, {"if (a b) {}", 6}, {"if (a) print 1;", 7}, {"if (a) { ] }", 9}, {"if (a) {} else print 1;", 15}, {"else {}", 0}, {"if (a, b) {}", 5},
		{"while", 5}, {"while (", 7}, {"while (a", 8}, {"while (a)", 9}, {"while (a) {", 11}, {"while a", 6}, {"while () {}", 7}, {"while (a) a;", 10}, {"while (a) {} else {}", 13},
		{"a =", 3}, {"a = 1", 5}, {"a = ;", 4}, {"a.x =", 5}, {"a.x = 1", 7}, {"a[1] =", 6}, {"a[1] = 1", 8}, {"a[1] == ;", 8}, {"= 1;", 0}, {"a = = 1;", 4},
		{"a ||", 4}, {"a &&", 4}, {"a ==", 4}, {"a <", 3}, {"a +", 3}, {"a *", 3}, {"-", 1}, {"!", 1}, {"a || || b;", 5}, {"a + + b;", 4}, {"a < = b;", 4}, {"a ! b;", 2}, {"a ! = b;", 2},
		{"a.", 2}, {"a.f(", 4}, {"a.f(1", 5}, {"a.f(1,", 6}, {"a.f(1)", 6}, {"a[", 2}, {"a[1", 3}, {"a(", 2}, {"a(1", 3}, {"a(1,", 4}, {"a(1 2)", 4}, {"a(1;", 3}, {"a[1;", 3}, {"a(]", 2}, {"a[)", 2},
		{"(", 1}, {"(a", 2}, {"()", 1}, {"(a;", 2}, {"(a, b);", 2}, {"{", 1}, {"{x", 2}, {"{x:", 3}, {"{x: 1", 5}, {"{x: 1,", 6}, {"{1", 1}, {`{"x": 1};`, 1}, {"{x 1};", 3}, {"{x: };", 4}, {"{x: 1;", 5}, {"{x: 1, };", 7}, {"{x = 1};", 3}, {"{,};", 1},
		{"fn", 2}, {"fn(", 3}, {"fn(a", 4}, {"fn(a,", 5}, {"fn(a)", 5}, {"fn(a) {", 7}, {"fn a() {};", 3}, {"fn(1) {};", 3}, {"fn(a b) {};", 5}, {"fn(a,) {};", 5}, {"fn() a;", 5}, {"fn() {} {};", 8}, {"fn(if) {};", 3}, {"fn(a.b) {};", 4}, {"fn(a = 1) {};", 5},
		{"count", 5}, {"count a;", 6}, {"count(", 6}, {"count(a", 7}, {"count(a, b);", 7}, {"key(", 4}, {"key(a", 5}, {"key(a,", 6}, {"key(a, b", 8}, {"key(a);", 5}, {"key(a, b, c);", 8}, {"has(a b);", 6}, {"setproto(, a);", 9}, {"str = 1;", 4},
	} {
		refused(t, x.s, x.at, api.ErrSay)
		refused(t, "  "+x.s, x.at+2, api.ErrSay)
		refused(t, "a; // b\n"+x.s, x.at+8, api.ErrSay)
		if x.s != "}" && x.s != "a; }" {
			refused(t, "if (a) { "+x.s, x.at+9, api.ErrSay)
			refused(t, "f(fn(a) { "+x.s, x.at+10, api.ErrSay)
		}
	}
}

// P7.2: programs of every kind of node, printed and read.
func TestPrintedAndRead(t *testing.T) {
	for _, s := range samples() {
		n, _, _ := parse.Parse(s)
		readsAgain(t, n)
	}
	exprs := []api.Node{
		null(), {Kind: api.EThis}, {Kind: api.EBool}, {Kind: api.EBool, N: 1}, whole(0), whole(1<<62 - 1), {Kind: api.EStr, S: "\"\\\n"}, name("a", 0),
		object(nil), object([]string{"if", "x"}, null(), null()), function(0, nil), function(0, []string{"a", "b"}, stmt(null())), not(null()), neg(null()),
		node(api.EGet, "x", null()), node(api.EIndex, "", null(), null()), node(api.ECall, "", null(), null()), node(api.EMeth, "x", null(), null()),
	}
	for _, x := range signs() {
		exprs = append(exprs, between(null(), x, null()))
	}
	for op := api.BCount; op <= api.BStr; op++ {
		_, parts := tree.Built(op)
		exprs = append(exprs, built(op, slices.Repeat([]api.Node{null()}, parts)...))
	}
	for _, e := range exprs {
		for _, outer := range append(exprs, between(null(), "-", between(null(), "-", null()))) {
			for i := range outer.Kids {
				n := outer
				n.Kids = slices.Clone(outer.Kids)
				if n.Kids[i] = e; n.Kind == api.EFn {
					n.Kids[i] = node(api.SReturn, "", e)
				}
				readsAgain(t, block(stmt(n), node(api.SLet, "a", n), node(api.SAssign, "a", n), node(api.SPrint, "", n), node(api.SReturn, "", n)))
				readsAgain(t, block(node(api.SSet, "x", n, e), node(api.SSetIx, "", n, e, n), node(api.SDel, "if", n), node(api.SDelIx, "", n, e)))
				readsAgain(t, block(node(api.SIf, "", n, block(stmt(e)), block()), node(api.SIf, "", e, block(), block(stmt(n))), node(api.SWhile, "", n, block(stmt(e)))))
			}
		}
	}
}

// P7.1: an answer is nobody else's.
func TestAnswersAreNew(t *testing.T) {
	const s = "a.x = {x: b, y: c}; f(a, b)[1] = fn(a) { b; };"
	a, _, _ := parse.Parse(s)
	b, _, _ := parse.Parse(s)
	want, _, _ := parse.Parse(s)
	spoil(&a)
	if !alike(b, want) {
		t.Error(b)
	}
}

// spoil changes all that a node has, and writes over the spare room of its lists.
func spoil(n *api.Node) {
	for i := range n.Kids {
		spoil(&n.Kids[i])
	}
	n.Kids = append(n.Kids, api.Node{Kind: 99})
	n.Names = append(n.Names, "spoilt")
	n.Names[0], n.S, n.At = "spoilt", "spoilt", -1
}

// P7.1: two lists of one answer share no room: what is added to one is not seen in another.
func TestListsOfOneAnswer(t *testing.T) {
	for _, s := range samples() {
		n, _, _ := parse.Parse(s)
		want, _, _ := parse.Parse(s)
		grow(&n)
		if !tree.Same(n, want) {
			t.Errorf("the lists of Parse(%q) share room", s)
		}
	}
}

// grow writes into the spare room of each list, and leaves the lists as they are.
func grow(n *api.Node) {
	_ = append(n.Kids, api.Node{Kind: 99})
	_ = append(n.Names, "spoilt")
	for i := range n.Kids {
		grow(&n.Kids[i])
	}
}
