package tree_test

import (
	"math"
	"slices"
	"strings"
	"testing"

	"proteus/api"
	"proteus/num"
	"proteus/tree"
)

func prints(t *testing.T, n api.Node, want string) {
	t.Helper()
	if s, e := tree.Print(n); s != want || e != api.OK {
		t.Errorf("Print(%v) is %q, %v; not %q", n, s, e, want)
	}
}

func refused(t *testing.T, n api.Node, want api.Errno) {
	t.Helper()
	if s, e := tree.Print(n); s != "" || e != want {
		t.Errorf("Print is %q, %v; not refused with %v", s, e, want)
	}
}

// shown is an expression as it is written, and its rank.
type shown struct {
	n    api.Node
	s    string
	rank int
}

// exprs are expressions of each kind, filled and empty ones.
func exprs() []shown {
	a, b := name("a"), name("b")
	l := []shown{
		{null(), "null", 9}, {api.Node{Kind: api.EThis}, "this", 9}, {api.Node{Kind: api.EBool}, "false", 9}, {api.Node{Kind: api.EBool, N: 1}, "true", 9},
		{whole(0), "0", 9}, {whole(42), "42", 9}, {whole(num.Most), "4611686018427387903", 9},
		{str(""), `""`, 9}, {str("a\"\\\n"), `"a\"\\\x0a"`, 9}, {name("abcdefghijkl"), "abcdefghijkl", 9}, {a, "a", 9},
		{object(), "{}", 9}, {object("x"), "{x: null}", 9}, {object("if", "x", "x"), "{if: null, x: null, x: null}", 9},
		{function(), "fn() {}", 9}, {function("a"), "fn(a) {}", 9}, {function("a", "b", "c"), "fn(a, b, c) {}", 9},
		{api.Node{Kind: api.EFn, Kids: []api.Node{stmt(a)}}, "fn() { a; }", 9},
		{api.Node{Kind: api.EFn, Names: names(6), Kids: []api.Node{stmt(a), node(api.SReturn, "", b)}}, "fn(a, b, c, d, e, f) { a; return b; }", 9},
		{neg(a), "-a", 7}, {not(a), "!a", 7},
		{node(api.EAnd, "", a, b), "a && b", 2}, {node(api.EOr, "", a, b), "a || b", 1},
		{node(api.EGet, "x", a), "a.x", 8}, {node(api.EGet, "let", a), "a.let", 8}, {node(api.EIndex, "", a, b), "a[b]", 8},
		{node(api.ECall, "", a), "a()", 8}, {node(api.ECall, "", a, b), "a(b)", 8}, {node(api.ECall, "", a, b, a), "a(b, a)", 8}, {node(api.ECall, "", a, b, b, b, b, b, b), "a(b, b, b, b, b, b)", 8},
		{node(api.EMeth, "x", a), "a.x()", 8}, {node(api.EMeth, "str", a, b), "a.str(b)", 8}, {node(api.EMeth, "x", a, b, a), "a.x(b, a)", 8}, {node(api.EMeth, "x", a, b, b, b, b, b, b), "a.x(b, b, b, b, b, b)", 8},
	}
	for op, s := range strings.Fields(allSigns) {
		if op > 0 {
			l = append(l, shown{bin(op, a, b), "a " + s + " b", []int{0, 5, 5, 6, 6, 6, 4, 4, 4, 4, 3, 3}[op]})
		}
	}
	for op, s := range strings.Fields(allBuilt) {
		switch op {
		case api.BKey, api.BHas, api.BSetProto:
			l = append(l, shown{api.Node{Kind: api.EBuilt, Op: op, Kids: []api.Node{a, b}}, s + "(a, b)", 9})
		case 0:
		default:
			l = append(l, shown{api.Node{Kind: api.EBuilt, Op: op, Kids: []api.Node{a}}, s + "(a)", 9})
		}
	}
	return l
}

// in is an expression as it is written, in brackets if that is asked.
func (x shown) in(brackets bool) string {
	if brackets {
		return "(" + x.s + ")"
	}
	return x.s
}

// P6.2: each expression alone, in brackets nowhere where only a whole one is asked for.
func TestPrintOfEachExpression(t *testing.T) {
	prints(t, block(), "")
	a := name("a")
	for _, x := range exprs() {
		if r := tree.Rank(x.n); r != x.rank {
			t.Errorf("Rank(%s) is %d, not %d", x.s, r, x.rank)
		}
		prints(t, program(x.n), x.s+";")
		prints(t, block(node(api.SLet, "b", x.n), node(api.SAssign, "b", x.n)), "let b = "+x.s+"; b = "+x.s+";")
		prints(t, block(node(api.SPrint, "", x.n), node(api.SReturn, "", x.n)), "print "+x.s+"; return "+x.s+";")
		prints(t, block(node(api.SSet, "x", a, x.n), node(api.SSetIx, "", a, x.n, x.n)), "a.x = "+x.s+"; a["+x.s+"] = "+x.s+";")
		prints(t, block(node(api.SDelIx, "", a, x.n)), "delete a["+x.s+"];")
		prints(t, block(node(api.SIf, "", x.n, block(), block()), node(api.SWhile, "", x.n, block())), "if ("+x.s+") {} while ("+x.s+") {}")
		prints(t, program(api.Node{Kind: api.EObj, Names: []string{"x", "y"}, Kids: []api.Node{x.n, x.n}}), "{x: "+x.s+", y: "+x.s+"};")
		prints(t, program(node(api.EIndex, "", a, x.n)), "a["+x.s+"];")
		prints(t, program(node(api.ECall, "", a, x.n, x.n)), "a("+x.s+", "+x.s+");")
		prints(t, program(node(api.EMeth, "x", a, x.n, x.n)), "a.x("+x.s+", "+x.s+");")
		prints(t, program(api.Node{Kind: api.EBuilt, Op: api.BHas, Kids: []api.Node{x.n, x.n}}), "has("+x.s+", "+x.s+");")
		prints(t, program(api.Node{Kind: api.EBuilt, Op: api.BStr, Kids: []api.Node{x.n}}), "str("+x.s+");")
		prints(t, program(api.Node{Kind: api.EFn, Kids: []api.Node{node(api.SReturn, "", x.n)}}), "fn() { return "+x.s+"; };")
	}
}

// P6.2: each two expressions, left and right of each sign.
func TestPrintOfSigns(t *testing.T) {
	type sign struct {
		kind, op int
		s        string
		rank     int
	}
	signs := []sign{{api.EAnd, 0, "&&", 2}, {api.EOr, 0, "||", 1}}
	for op, s := range strings.Fields(allSigns) {
		if op > 0 {
			signs = append(signs, sign{api.EBin, op, s, []int{0, 5, 5, 6, 6, 6, 4, 4, 4, 4, 3, 3}[op]})
		}
	}
	for _, g := range signs {
		for _, x := range exprs() {
			for _, y := range exprs() {
				n := api.Node{Kind: g.kind, Op: g.op, Kids: []api.Node{x.n, y.n}}
				prints(t, program(n), x.in(x.rank < g.rank)+" "+g.s+" "+y.in(y.rank <= g.rank)+";")
			}
		}
	}
}

// P6.2: each expression under the signs over one.
func TestPrintOfSignsOverOne(t *testing.T) {
	for _, x := range exprs() {
		s := x.in(x.rank < 7)
		prints(t, program(neg(x.n), not(x.n)), "-"+s+"; !"+s+";")
		prints(t, program(neg(neg(x.n)), not(neg(not(x.n)))), "--"+s+"; !-!"+s+";")
	}
}

// P6.2: each expression as the first one of what asks for rank 8; a get that is called has brackets, a method's call none.
func TestPrintOfFirstExpressions(t *testing.T) {
	b := name("b")
	for _, x := range exprs() {
		s := x.in(x.rank < 8)
		called := x.in(x.rank < 8 || x.n.Kind == api.EGet)
		prints(t, program(node(api.EGet, "x", x.n)), s+".x;")
		prints(t, program(node(api.EIndex, "", x.n, b)), s+"[b];")
		prints(t, program(node(api.EMeth, "x", x.n)), s+".x();")
		prints(t, program(node(api.EMeth, "x", x.n, b)), s+".x(b);")
		prints(t, program(node(api.ECall, "", x.n)), called+"();")
		prints(t, program(node(api.ECall, "", x.n, b)), called+"(b);")
		prints(t, block(node(api.SSet, "x", x.n, b)), s+".x = b;")
		prints(t, block(node(api.SSetIx, "", x.n, b, b)), s+"[b] = b;")
		prints(t, block(node(api.SDel, "x", x.n)), "delete "+s+".x;")
		prints(t, block(node(api.SDelIx, "", x.n, b)), "delete "+s+"[b];")
	}
	get := node(api.EGet, "f", name("a"))
	prints(t, program(node(api.ECall, "", get, whole(1))), "(a.f)(1);")
	prints(t, program(node(api.EMeth, "f", name("a"), whole(1))), "a.f(1);")
	prints(t, program(node(api.ECall, "", node(api.ECall, "", get))), "(a.f)()();")
	prints(t, program(node(api.EMeth, "g", get)), "a.f.g();")
	prints(t, program(node(api.ECall, "", name("a"), get)), "a(a.f);")
}

// P6.2
func TestPrintOfStatements(t *testing.T) {
	a, b := name("a"), name("b")
	one, two := stmt(a), node(api.SPrint, "", b)
	for want, s := range map[string]api.Node{
		"let a = b;": node(api.SLet, "a", b), "a = b;": node(api.SAssign, "a", b), "a.x = b;": node(api.SSet, "x", a, b), "a[b] = a;": node(api.SSetIx, "", a, b, a),
		"delete a.if;": node(api.SDel, "if", a), "delete a[b];": node(api.SDelIx, "", a, b), "print a;": node(api.SPrint, "", a), "return a;": node(api.SReturn, "", a), "a;": stmt(a),
		"if (a) {}":             node(api.SIf, "", a, block(), block()),
		"if (a) { a; }":         node(api.SIf, "", a, block(one), block()),
		"if (a) {} else { a; }": node(api.SIf, "", a, block(), block(one)),
		"if (a) { a; print b; } else { print b; a; }": node(api.SIf, "", a, block(one, two), block(two, one)),
		"while (a) {}":                                  node(api.SWhile, "", a, block()),
		"while (a) { a; }":                              node(api.SWhile, "", a, block(one)),
		"while (a) { a; print b; }":                     node(api.SWhile, "", a, block(one, two)),
		"while (a) { if (b) { a; } else { print b; } }": node(api.SWhile, "", a, block(node(api.SIf, "", b, block(one), block(two)))),
		"if (a) {} else { if (b) {} }":                  node(api.SIf, "", a, block(), block(node(api.SIf, "", b, block(), block()))),
		"if (a) { while (b) {} }":                       node(api.SIf, "", a, block(node(api.SWhile, "", b, block())), block()),
	} {
		prints(t, block(s), want)
		prints(t, block(s, s), want+" "+want)
		prints(t, block(one, s, two), "a; "+want+" print b;")
		prints(t, block(node(api.SWhile, "", b, block(s, one))), "while (b) { "+want+" a; }")
		prints(t, block(node(api.SIf, "", b, block(one, s), block(s, s))), "if (b) { a; "+want+" } else { "+want+" "+want+" }")
		prints(t, program(api.Node{Kind: api.EFn, Names: []string{"a"}, Kids: []api.Node{s, s}}), "fn(a) { "+want+" "+want+" };")
	}
}

// P6.2: At is not written.
func TestPrintOfAt(t *testing.T) {
	d := dice(6)
	for range 200 {
		n := newModel().grow(&d, 'B', 7)
		want, e := tree.Print(n)
		if s, f := tree.Print(moved(n, &d)); s != want || f != e {
			t.Errorf("%q, %v; not %q, %v", s, f, want, e)
		}
	}
}

// ofLength is a program whose text has so many bytes (from 4 to 2400), in strings.
func ofLength(n int) api.Node {
	var l []api.Node
	for n > 300 {
		l = append(l, stmt(str(strings.Repeat("a", 256))))
		n -= 260
	}
	for n > 259 {
		l = append(l, stmt(str(strings.Repeat("a", 100))))
		n -= 104
	}
	return block(append(l, stmt(str(strings.Repeat("a", n-3))))...)
}

// P6.2: a text of 2000 bytes, and of one more.
func TestPrintOfLongTexts(t *testing.T) {
	for _, k := range []int{4, 259, 260, 261, 300, 301, 1990, 1999, 2000} {
		if s, e := tree.Print(ofLength(k)); len(s) != k || e != api.OK {
			t.Errorf("%d bytes: %d, %v", k, len(s), e)
		}
	}
	for _, k := range []int{2001, 2002, 2100, 2259} {
		refused(t, ofLength(k), api.ErrLong)
		checks(t, ofLength(k), api.OK)
	}
	// The last bytes are brackets of what is around, or a string's that are written by more than one.
	for most, around := range map[int]func(l ...api.Node) api.Node{
		2000 - len("while (null) {  }"):      func(l ...api.Node) api.Node { return block(node(api.SWhile, "", null(), block(l...))) },
		2000 - len("if (null) {} else {  }"): func(l ...api.Node) api.Node { return block(node(api.SIf, "", null(), block(), block(l...))) },
		2000 - len("fn() {  };"):             func(l ...api.Node) api.Node { return program(api.Node{Kind: api.EFn, Kids: l}) },
		2000 - len("str(fn() {  }).x = null;"): func(l ...api.Node) api.Node {
			return block(node(api.SSet, "x", api.Node{Kind: api.EBuilt, Op: api.BStr, Kids: []api.Node{{Kind: api.EFn, Kids: l}}}, null()))
		},
	} {
		for k := most - 3; k <= most+3; k++ {
			n := around(ofLength(k).Kids...)
			if k > most {
				refused(t, n, api.ErrLong)
			} else if s, e := tree.Print(n); len(s) != 2000-most+k || e != api.OK {
				t.Errorf("%d and %d bytes: %d, %v", 2000-most, k, len(s), e)
			}
		}
	}
	x := str(strings.Repeat("\xff", 256))
	refused(t, program(x, x), api.ErrLong)
	if s, e := tree.Print(program(x)); len(s) != 4*256+3 || e != api.OK {
		t.Error(s, e)
	}
}

// P6.2: what is far too long is refused, too; what is wrong or too high is so ahead of that.
func TestPrintOfFarTooLongTexts(t *testing.T) {
	x := str(strings.Repeat("a", 256))
	o := api.Node{Kind: api.EObj, Names: slices.Repeat([]string{"x"}, 40), Kids: slices.Repeat([]api.Node{x}, 40)}
	long := block(slices.Repeat([]api.Node{stmt(o)}, 40)...)
	refused(t, long, api.ErrLong)
	loops := block(long.Kids...)
	for range 2 {
		loops = block(slices.Repeat([]api.Node{node(api.SWhile, "", null(), loops)}, 20)...)
	}
	refused(t, loops, api.ErrLong)
	sum := name("a")
	for range 9 {
		sum = bin(api.Add, sum, sum)
	}
	refused(t, program(sum), api.ErrLong)
	refused(t, program(o, sum, whole(-1)), api.ErrArg)
	refused(t, program(o, sum, not(bin(api.Add, sum, sum))), api.ErrDeep)
	refused(t, program(whole(-1), sum, not(bin(api.Add, sum, sum))), api.ErrDeep)
}

// P6.2: Check's errors.
func TestPrintOfWrongTrees(t *testing.T) {
	for _, n := range []api.Node{
		{}, name("a"), stmt(name("a")), block(name("a")), block(block()), {Kind: api.SBlock, S: "a"}, {Kind: api.SBlock, N: 1}, {Kind: api.SBlock, Op: 1}, {Kind: api.SBlock, Names: []string{"a"}},
		program(name("if")), program(name("")), program(whole(-1)), program(whole(math.MaxInt)), program(api.Node{Kind: api.EBin, Op: 12, Kids: nulls(2)}),
		program(api.Node{Kind: api.ELocal}), program(node(api.ECall, "")), block(node(api.SIf, "", null(), block())), block(node(api.SGlobal, "", null())), block(emptyStmts(41)...),
	} {
		refused(t, n, api.ErrArg)
	}
	n := name("a")
	for range 9 {
		n = not(n)
	}
	prints(t, program(n), "!!!!!!!!!a;")
	refused(t, program(not(n)), api.ErrDeep)
}

// P6.1, P6.2: trees that may be, held against the chapter's table.
func TestPrintOfMixedTrees(t *testing.T) {
	m, d := newModel(), dice(1)
	written, long := 0, 0
	for range 5000 {
		n := m.grow(&d, 'B', 4+d.upTo(9))
		want, wantErr := m.print(n)
		s, e := tree.Print(n)
		if s != want || e != wantErr || wantErr != api.OK && wantErr != api.ErrLong {
			t.Fatalf("Print(%v) is %q, %v; not %q, %v", n, s, e, want, wantErr)
		}
		if e == api.OK {
			written++
		} else {
			long++
		}
		if h := tree.Height(n); h != m.height(n) {
			t.Fatalf("Height(%v) is %d", n, h)
		}
	}
	if written < 1000 || long < 50 {
		t.Errorf("the trees are of one sort: %d are written, %d are too long", written, long)
	}
}

// spoilt is a tree with some node of it changed, so that it may be wrong.
func spoilt(m model, d *dice, n api.Node) api.Node {
	if len(n.Kids) > 0 && d.upTo(3) > 0 {
		i := d.upTo(len(n.Kids))
		n.Kids = slices.Clone(n.Kids)
		n.Kids[i] = spoilt(m, d, n.Kids[i])
		return n
	}
	use := "ESB"[d.upTo(3)]
	switch d.upTo(9) {
	case 0:
		n.Kind = d.upTo(37) - 1
	case 1:
		n.Op = d.upTo(14) - 1
	case 2:
		n.N = []int{-1, 0, 1, 2, num.Most, num.Most + 1}[d.upTo(6)]
	case 3:
		n.S = []string{"", "a", "if", "9", strings.Repeat("a", 257), "abcdefghijklm"}[d.upTo(6)]
	case 4:
		n.Names = append(slices.Clone(n.Names), []string{"", "a", "if", "9"}[d.upTo(4)])
	case 5:
		n.Names = n.Names[:len(n.Names)/2]
	case 6:
		n.Kids = append(slices.Clone(n.Kids), m.grow(d, use, 3))
	case 7:
		n.Kids = n.Kids[:len(n.Kids)/2]
	case 8:
		n = m.grow(d, use, 4)
	}
	return n
}

// P6.1: trees with a node changed, held against the chapter's table.
func TestCheckOfSpoiltTrees(t *testing.T) {
	m, d := newModel(), dice(2)
	seen := map[api.Errno]int{}
	for range 8000 {
		n := spoilt(m, &d, m.grow(&d, 'B', 2+d.upTo(13)))
		want := m.check(n)
		if e := tree.Check(n); e != want {
			t.Fatalf("Check(%v) is %v, not %v", n, e, want)
		}
		seen[want]++
	}
	if seen[api.OK] < 1000 || seen[api.ErrArg] < 1000 || seen[api.ErrDeep] < 20 {
		t.Errorf("the trees are of one sort: %v", seen)
	}
}

// P6.1 to P6.3: what is handed in is not changed, its spare room included.
func TestTreesAreNotChanged(t *testing.T) {
	room := make([]string, 2, 4)
	room[0], room[1], room[:4][2] = "x", "y", "spare"
	kids := append(make([]api.Node, 0, 4), name("a"), not(name("b")))
	spare := api.Node{Kind: 99, S: "spare"}
	kids[:3][2] = spare
	n := program(api.Node{Kind: api.EObj, Names: room, Kids: kids})
	d := dice(8)
	was := moved(n, &d)
	tree.Check(n)
	tree.Height(n)
	tree.Count(n)
	tree.Rank(n)
	prints(t, n, "{x: a, y: !b};")
	if !tree.Same(n, was) || room[:4][2] != "spare" || !tree.Same(kids[:3][2], spare) {
		t.Error(n, room[:4], kids[:3])
	}
}
