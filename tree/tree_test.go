package tree_test

import (
	"math"
	"slices"
	"strings"
	"testing"

	"proteus/api"
	"proteus/num"
	"proteus/tree"
)

func name(s string) api.Node  { return api.Node{Kind: api.EName, S: s} }
func whole(n int) api.Node    { return api.Node{Kind: api.EInt, N: n} }
func str(s string) api.Node   { return api.Node{Kind: api.EStr, S: s} }
func null() api.Node          { return api.Node{Kind: api.ENull} }
func not(a api.Node) api.Node { return api.Node{Kind: api.EUn, Op: api.Not, Kids: []api.Node{a}} }
func neg(a api.Node) api.Node { return api.Node{Kind: api.EUn, Op: api.Neg, Kids: []api.Node{a}} }

func bin(op int, a, b api.Node) api.Node {
	return api.Node{Kind: api.EBin, Op: op, Kids: []api.Node{a, b}}
}

// node is one of Kids, and of S where its kind has that.
func node(kind int, s string, kids ...api.Node) api.Node {
	return api.Node{Kind: kind, S: s, Kids: kids}
}

func block(l ...api.Node) api.Node   { return api.Node{Kind: api.SBlock, Kids: l} }
func stmt(e api.Node) api.Node       { return node(api.SExpr, "", e) }
func object(s ...string) api.Node    { return api.Node{Kind: api.EObj, Names: s, Kids: nulls(len(s))} }
func nulls(n int) []api.Node         { return slices.Repeat([]api.Node{null()}, n) }
func emptyStmts(n int) []api.Node    { return slices.Repeat([]api.Node{stmt(null())}, n) }
func names(n int) []string           { return strings.Split("abcdefghijklmnopqrstuvwxyz"[:n], "") }
func function(s ...string) api.Node  { return api.Node{Kind: api.EFn, Names: s} }
func program(e ...api.Node) api.Node { return block(each(e, stmt)...) }

func each(l []api.Node, f func(api.Node) api.Node) []api.Node {
	var out []api.Node
	for _, n := range l {
		out = append(out, f(n))
	}
	return out
}

func checks(t *testing.T, n api.Node, want api.Errno) {
	t.Helper()
	if e := tree.Check(n); e != want {
		t.Errorf("Check(%v) is %v, not %v", n, e, want)
	}
	if s, e := tree.Print(n); e != want && (want != api.OK || e != api.ErrLong) || e != api.OK && s != "" {
		t.Errorf("Print(%v) is %q, %v, not %v", n, s, e, want)
	}
}

// asExpr holds Check of an expression against what is wanted, at each place at which one is asked for.
func asExpr(t *testing.T, e api.Node, want api.Errno) {
	t.Helper()
	a := name("a")
	for _, s := range []api.Node{
		stmt(e), node(api.SLet, "a", e), node(api.SAssign, "a", e), node(api.SPrint, "", e), node(api.SReturn, "", e),
		node(api.SSet, "x", e, a), node(api.SSet, "x", a, e), node(api.SSetIx, "", e, a, a), node(api.SSetIx, "", a, e, a), node(api.SSetIx, "", a, a, e),
		node(api.SDel, "x", e), node(api.SDelIx, "", e, a), node(api.SDelIx, "", a, e),
		node(api.SIf, "", e, block(), block()), node(api.SWhile, "", e, block()),
	} {
		checks(t, block(s), want)
		checks(t, block(stmt(a), s, stmt(a)), want)
	}
	for _, x := range []api.Node{
		not(e), neg(e), bin(api.Add, e, a), bin(api.Ne, a, e), node(api.EAnd, "", e, a), node(api.EAnd, "", a, e), node(api.EOr, "", e, a), node(api.EOr, "", a, e),
		node(api.EGet, "x", e), node(api.EIndex, "", e, a), node(api.EIndex, "", a, e),
		node(api.ECall, "", e), node(api.ECall, "", e, a), node(api.ECall, "", a, e), node(api.ECall, "", a, a, e),
		node(api.EMeth, "x", e), node(api.EMeth, "x", e, a), node(api.EMeth, "x", a, e), node(api.EMeth, "x", a, a, e),
		{Kind: api.EObj, Names: []string{"x"}, Kids: []api.Node{e}}, {Kind: api.EObj, Names: []string{"x", "y"}, Kids: []api.Node{a, e}},
		{Kind: api.EFn, Kids: []api.Node{node(api.SReturn, "", e)}},
		{Kind: api.EBuilt, Op: api.BCount, Kids: []api.Node{e}}, {Kind: api.EBuilt, Op: api.BSetProto, Kids: []api.Node{a, e}},
	} {
		checks(t, program(x), want)
	}
}

// asStmt does so of a statement.
func asStmt(t *testing.T, s api.Node, want api.Errno) {
	t.Helper()
	a := stmt(name("a"))
	for _, p := range []api.Node{
		block(s), block(a, s), block(s, a), program(api.Node{Kind: api.EFn, Kids: []api.Node{s}}), program(api.Node{Kind: api.EFn, Names: []string{"a"}, Kids: []api.Node{a, s}}),
		block(node(api.SIf, "", name("a"), block(s), block())), block(node(api.SIf, "", name("a"), block(), block(s))), block(node(api.SWhile, "", name("a"), block(a, s))),
	} {
		checks(t, p, want)
	}
}

// as holds Check of a node of that use against what is wanted.
func as(t *testing.T, use byte, n api.Node, want api.Errno) {
	t.Helper()
	switch use {
	case 'E':
		asExpr(t, n, want)
	case 'S':
		asStmt(t, n, want)
	default:
		checks(t, n, want)
		checks(t, block(node(api.SIf, "", null(), n, block())), want)
		checks(t, block(node(api.SIf, "", null(), block(), n)), want)
		checks(t, block(node(api.SWhile, "", null(), n)), want)
	}
}

// plain is a small right node of a line.
func plain(m model, l line) api.Node {
	n := api.Node{Kind: l.kind, Op: min(1, l.ops), S: map[string]string{"name": "a", "property": "x", "string": "s"}[l.s]}
	for _, use := range []byte(m.pattern(n)) {
		n.Kids = append(n.Kids, map[byte]api.Node{'E': name("b"), 'B': block()}[use])
	}
	return n
}

// P6.1: each Kind alone, and wherever its like may stand.
func TestCheckOfEachKind(t *testing.T) {
	m := newModel()
	for _, l := range lines() {
		as(t, l.use, plain(m, l), api.OK)
	}
	checks(t, block(), api.OK)
}

// P6.1: each Kind with a field that its line does not name.
func TestCheckOfFieldsTooMany(t *testing.T) {
	m := newModel()
	for _, l := range lines() {
		for field, change := range map[string]func(n *api.Node){
			"Op": func(n *api.Node) { n.Op = 1 }, "N": func(n *api.Node) { n.N = 1 }, "S": func(n *api.Node) { n.S = "x" },
			"Names": func(n *api.Node) { n.Names = []string{"x"} }, "Op ": func(n *api.Node) { n.Op = -1 }, "N ": func(n *api.Node) { n.N = math.MinInt },
			"Names ": func(n *api.Node) { n.Names = []string{""} },
		} {
			has := l.ops > 0 && field == "Op" || l.mostN > 0 && field == "N" || l.s != "" && field == "S" || l.names == "name" && field == "Names"
			n := plain(m, l)
			change(&n)
			if has {
				as(t, l.use, n, api.OK)
			} else {
				as(t, l.use, n, api.ErrArg)
			}
		}
	}
}

// P6.1: At may be any number, and no list is an empty one.
func TestCheckOfAtAndEmptyLists(t *testing.T) {
	m := newModel()
	for _, l := range lines() {
		for _, at := range []int{1, 2001, -1, math.MinInt, math.MaxInt} {
			n := plain(m, l)
			n.At = at
			as(t, l.use, n, api.OK)
			n.Names = []string{}
			if len(n.Kids) == 0 {
				n.Kids = []api.Node{}
			}
			as(t, l.use, n, api.OK)
		}
	}
}

// P6.1: each Kind with one Kid too few, and with one too many.
func TestCheckOfKidsTooFewAndTooMany(t *testing.T) {
	m := newModel()
	for _, l := range lines() {
		n := plain(m, l)
		if len(n.Kids) > 0 {
			few := n
			few.Kids = n.Kids[:len(n.Kids)-1]
			as(t, l.use, few, api.ErrArg)
			few.Kids = n.Kids[1:]
			as(t, l.use, few, api.ErrArg)
			few.Kids = nil
			as(t, l.use, few, api.ErrArg)
		}
		want := api.ErrArg
		if l.kids == "E+" {
			want = api.OK
		}
		for _, more := range []api.Node{null(), name("b"), block(), stmt(null())} {
			many := n
			many.Kids = append(slices.Clone(n.Kids), more)
			if l.kids == "*" && more.Kind == api.SExpr {
				as(t, l.use, many, api.OK)
			} else if more.Kind < api.SLet {
				as(t, l.use, many, want)
			} else {
				as(t, l.use, many, api.ErrArg)
			}
		}
	}
	for op := api.BCount; op <= api.BStr; op++ {
		_, parts := tree.Built(op)
		for k := range 5 {
			want := api.ErrArg
			if k == parts {
				want = api.OK
			}
			asExpr(t, api.Node{Kind: api.EBuilt, Op: op, Kids: nulls(k)}, want)
		}
	}
}

// P6.1: an Op below the first, and above the last.
func TestCheckOfOps(t *testing.T) {
	for op := -2; op < 20; op++ {
		right := func(last int) api.Errno {
			if op >= 1 && op <= last {
				return api.OK
			}
			return api.ErrArg
		}
		asExpr(t, api.Node{Kind: api.EUn, Op: op, Kids: nulls(1)}, right(api.Not))
		asExpr(t, api.Node{Kind: api.EBin, Op: op, Kids: nulls(2)}, right(api.Ne))
		_, parts := tree.Built(op)
		asExpr(t, api.Node{Kind: api.EBuilt, Op: op, Kids: nulls(parts)}, right(api.BStr))
	}
	for _, op := range []int{math.MinInt, math.MaxInt, 1 << 32, 1<<32 + 1, -1 << 63} {
		asExpr(t, api.Node{Kind: api.EUn, Op: op, Kids: nulls(1)}, api.ErrArg)
		asExpr(t, api.Node{Kind: api.EBin, Op: op, Kids: nulls(2)}, api.ErrArg)
		for k := range 3 {
			asExpr(t, api.Node{Kind: api.EBuilt, Op: op, Kids: nulls(k)}, api.ErrArg)
		}
	}
}

// P6.1: the numbers of EBool and EInt.
func TestCheckOfNumbers(t *testing.T) {
	for n, want := range map[int]api.Errno{0: api.OK, 1: api.OK, 2: api.ErrArg, -1: api.ErrArg, math.MinInt: api.ErrArg, math.MaxInt: api.ErrArg, 1 << 32: api.ErrArg} {
		asExpr(t, api.Node{Kind: api.EBool, N: n}, want)
	}
	for n, want := range map[int]api.Errno{
		0: api.OK, 1: api.OK, 2: api.OK, 1 << 32: api.OK, num.Most - 1: api.OK, num.Most: api.OK, num.Most + 1: api.ErrArg,
		-1: api.ErrArg, num.Least: api.ErrArg, math.MinInt: api.ErrArg, math.MaxInt: api.ErrArg,
	} {
		asExpr(t, whole(n), want)
	}
}

// P6.1: strings may have any bytes, and 256 of them, not one more.
func TestCheckOfStrings(t *testing.T) {
	for _, s := range []string{"", "a", "if", "\x00", "\xff", "\"\\", "é", strings.Repeat("a", 256), strings.Repeat("\n", 256)} {
		asExpr(t, str(s), api.OK)
	}
	for _, s := range []string{strings.Repeat("a", 257), strings.Repeat("é", 129), strings.Repeat("a", 70000)} {
		asExpr(t, str(s), api.ErrArg)
	}
}

// P6.1: names may be no keys, properties may; neither may be what is no name.
func TestCheckOfNames(t *testing.T) {
	for s, want := range map[string][2]api.Errno{
		"a": {}, "_": {}, "Z9_": {}, "abcdefghijkl": {}, "lets": {}, "If": {},
		"": {api.ErrArg, api.ErrArg}, "abcdefghijklm": {api.ErrArg, api.ErrArg}, "9a": {api.ErrArg, api.ErrArg}, "a b": {api.ErrArg, api.ErrArg},
		"é": {api.ErrArg, api.ErrArg}, "a.b": {api.ErrArg, api.ErrArg}, "a\x00": {api.ErrArg, api.ErrArg}, "let ": {api.ErrArg, api.ErrArg}, "\xff": {api.ErrArg, api.ErrArg},
	} {
		bothNames(t, s, want[0], want[1])
	}
	for _, s := range strings.Fields(allKeys) {
		bothNames(t, s, api.ErrArg, api.OK)
	}
}

// bothNames holds a text as a name, and as a property, against what is wanted.
func bothNames(t *testing.T, s string, asName, asProperty api.Errno) {
	t.Helper()
	asExpr(t, name(s), asName)
	asExpr(t, function(s), asName)
	asExpr(t, function("a", s), asName)
	asExpr(t, function(s, "a", "b"), asName)
	asStmt(t, node(api.SLet, s, null()), asName)
	asStmt(t, node(api.SAssign, s, null()), asName)
	asExpr(t, object(s), asProperty)
	asExpr(t, object("x", s), asProperty)
	asExpr(t, object(s, "x", "y"), asProperty)
	asExpr(t, node(api.EGet, s, null()), asProperty)
	asExpr(t, node(api.EMeth, s, null()), asProperty)
	asStmt(t, node(api.SSet, s, null(), null()), asProperty)
	asStmt(t, node(api.SDel, s, null()), asProperty)
}

// P6.1: 40 Kids of a block, a function, an object, and one more; one name twice may be.
func TestCheckOfManyKids(t *testing.T) {
	for k, want := range map[int]api.Errno{0: api.OK, 1: api.OK, 39: api.OK, 40: api.OK, 41: api.ErrArg, 80: api.ErrArg, 1000: api.ErrArg} {
		l := emptyStmts(k)
		as(t, 'B', block(l...), want)
		asExpr(t, api.Node{Kind: api.EFn, Kids: l}, want)
		asExpr(t, object(slices.Repeat([]string{"x"}, k)...), want)
		o := object(slices.Repeat([]string{"x"}, k)...)
		o.Names = append(o.Names, "y")
		asExpr(t, o, api.ErrArg)
		o.Kids = append(o.Kids, null(), null())
		asExpr(t, o, api.ErrArg)
	}
	asExpr(t, function("a", "a"), api.OK)
	asExpr(t, api.Node{Kind: api.EObj, Kids: nulls(1)}, api.ErrArg)
	asExpr(t, api.Node{Kind: api.EObj, Names: []string{"x"}}, api.ErrArg)
}

// P6.1: six parameters and arguments, and one more.
func TestCheckOfManyParameters(t *testing.T) {
	for k := range 10 {
		want := api.OK
		if k > 6 {
			want = api.ErrArg
		}
		asExpr(t, function(names(k)...), want)
		asExpr(t, node(api.ECall, "", nulls(1+k)...), want)
		asExpr(t, node(api.EMeth, "x", nulls(1+k)...), want)
	}
}

// P6.1: statements where expressions are asked for, expressions where statements, blocks where either, and either where blocks are.
func TestCheckOfOtherUses(t *testing.T) {
	m := newModel()
	for _, l := range lines() {
		for _, use := range []byte("ESB") {
			if use != l.use {
				as(t, use, plain(m, l), api.ErrArg)
			}
		}
	}
	checks(t, block(block()), api.ErrArg)
	checks(t, block(block(stmt(null()))), api.ErrArg)
	checks(t, block(stmt(null()), block()), api.ErrArg)
	for _, s := range []api.Node{
		node(api.SIf, "", null(), block()), node(api.SIf, "", block(), null(), block()), node(api.SIf, "", block(), block(), block()), node(api.SIf, "", null(), null(), null()),
		node(api.SIf, "", null(), stmt(null()), block()), node(api.SIf, "", null(), block(), stmt(null())), node(api.SIf, "", null(), block(), block(), block()),
		node(api.SWhile, "", null()), node(api.SWhile, "", block(), null()), node(api.SWhile, "", null(), stmt(null())), node(api.SWhile, "", null(), block(), block()),
	} {
		asStmt(t, s, api.ErrArg)
	}
}

// P6.1: Kinds that there are not, and those of units.
func TestCheckOfOtherKinds(t *testing.T) {
	kinds := []int{0, -1, 35, 36, 100, math.MinInt, math.MaxInt, 1<<32 + api.SBlock, api.ELocal, api.EGlobal, api.EFun, api.SLocal, api.SGlobal}
	for _, kind := range kinds {
		for k := range 4 {
			n := api.Node{Kind: kind, Kids: nulls(k)}
			for _, use := range []byte("ESB") {
				as(t, use, n, api.ErrArg)
			}
		}
		asExpr(t, api.Node{Kind: kind, S: "a"}, api.ErrArg)
		asExpr(t, api.Node{Kind: kind, N: 1}, api.ErrArg)
		asStmt(t, api.Node{Kind: kind, S: "a", Kids: nulls(1)}, api.ErrArg)
	}
	for _, l := range lines() {
		if l.use != 'B' {
			checks(t, plain(newModel(), l), api.ErrArg)
		}
	}
}

// wraps are ways to make a tree one higher, of any node.
func wraps() []func(api.Node) api.Node {
	a := null()
	return []func(api.Node) api.Node{
		not, func(n api.Node) api.Node { return bin(api.Sub, a, n) }, func(n api.Node) api.Node { return bin(api.Sub, n, a) },
		func(n api.Node) api.Node { return node(api.EAnd, "", n, n) }, func(n api.Node) api.Node { return node(api.EGet, "x", n) },
		func(n api.Node) api.Node { return node(api.ECall, "", a, a, n) }, func(n api.Node) api.Node { return node(api.EIndex, "", n, a) },
		func(n api.Node) api.Node {
			return api.Node{Kind: api.EObj, Names: []string{"x", "y", "z"}, Kids: []api.Node{a, n, a}}
		},
		func(n api.Node) api.Node { return api.Node{Kind: api.EBuilt, Op: api.BStr, Kids: []api.Node{n}} },
	}
}

// P6.1: a height of 12, and of one more, also of what is wrong.
func TestCheckOfHeights(t *testing.T) {
	for _, wrap := range wraps() {
		n := name("a")
		for h := 3; h < 20; h++ {
			want, wrong := api.OK, api.ErrArg
			if h > 12 {
				want, wrong = api.ErrDeep, api.ErrDeep
			}
			p := program(n)
			checks(t, p, want)
			checks(t, program(null(), n, null()), want)
			checks(t, program(null(), n, whole(-1)), wrong)
			p.Names = []string{"a"}
			checks(t, p, wrong)
			checks(t, node(api.SReturn, "", stmt(n)), wrong)
			checks(t, api.Node{Kind: 99, Kids: []api.Node{{Kind: -1, Kids: []api.Node{n}}}}, wrong)
			n = wrap(n)
		}
	}
}

// P6.1: a height of blocks and functions.
func TestCheckOfHeightsOfBlocks(t *testing.T) {
	loop := func(b api.Node) api.Node { return block(node(api.SWhile, "", null(), b)) }
	choice := func(b api.Node) api.Node { return block(node(api.SIf, "", null(), block(), b)) }
	for _, wrap := range []func(api.Node) api.Node{loop, choice} {
		b, e := block(), api.Node{Kind: api.SBlock, S: "x"}
		for h := 1; h < 20; h += 2 {
			want, wrong := api.OK, api.ErrArg
			if h > 12 {
				want, wrong = api.ErrDeep, api.ErrDeep
			}
			checks(t, b, want)
			checks(t, e, wrong)
			b, e = wrap(b), wrap(e)
		}
	}
	f := function()
	for h := 1; h < 20; h += 2 {
		want := api.OK
		if h+2 > 12 {
			want = api.ErrDeep
		}
		checks(t, program(f), want)
		f = api.Node{Kind: api.EFn, Kids: []api.Node{stmt(f)}}
	}
}

// P6.1: trees whose parts are the same parts again end, too.
func TestCheckOfSharedParts(t *testing.T) {
	n := name("a")
	for range 40 {
		n = bin(api.Add, n, n)
	}
	checks(t, program(n), api.ErrDeep)
}

// P6.1
func TestHeightAndCount(t *testing.T) {
	a := name("a")
	for _, c := range []struct {
		n             api.Node
		height, count int
	}{
		{api.Node{}, 1, 1}, {a, 1, 1}, {block(), 1, 1}, {object(), 1, 1}, {api.Node{Kids: []api.Node{}}, 1, 1}, {function("a", "b"), 1, 1},
		{not(a), 2, 2}, {bin(api.Add, a, a), 2, 3}, {stmt(a), 2, 2}, {object("x", "y", "z"), 2, 4}, {block(block(), block()), 2, 3},
		{bin(api.Add, a, not(a)), 3, 4}, {bin(api.Add, not(a), a), 3, 4}, {bin(api.Add, not(a), not(not(a))), 4, 6}, {program(a, not(a), a), 4, 8},
		{api.Node{Kind: -5, Kids: []api.Node{{}, {Kids: make([]api.Node, 50)}, {}}}, 3, 54},
		{block(node(api.SIf, "", a, block(stmt(a), stmt(a)), block())), 5, 9}, {node(api.ECall, "", nulls(7)...), 2, 8},
	} {
		if h, k := tree.Height(c.n), tree.Count(c.n); h != c.height || k != c.count {
			t.Errorf("Height and Count of %v are %d and %d, not %d and %d", c.n, h, k, c.height, c.count)
		}
	}
	for _, wrap := range wraps() {
		n := name("a")
		for h := 1; h < 12; h++ {
			if got := tree.Height(n); got != h {
				t.Errorf("Height(%v) is %d, not %d", n, got, h)
			}
			n = wrap(n)
		}
	}
}

// P6.1: Height and Count have no bound of their own.
func TestHeightAndCountOfGreatTrees(t *testing.T) {
	n := name("a")
	for range 1<<16 - 2 {
		n = not(n)
	}
	if h, k := tree.Height(n), tree.Count(n); h != 1<<16-1 || k != 1<<16-1 {
		t.Error(h, k)
	}
	if !tree.Same(n, n) || tree.Same(n, not(n)) {
		t.Error("it is itself alone")
	}
	if e := tree.Check(n); e != api.ErrDeep {
		t.Error(e)
	}
	if k := tree.Count(block(nulls(100000)...)); k != 100001 {
		t.Error(k)
	}
	checks(t, block(emptyStmts(100000)...), api.ErrArg)
}

func sames(t *testing.T, a, b api.Node, want bool) {
	t.Helper()
	if tree.Same(a, b) != want || tree.Same(b, a) != want {
		t.Errorf("Same(%v, %v) is not %v", a, b, want)
	}
}

// changes are nodes with one field changed; what is left of it is not.
func changes(n api.Node) []api.Node {
	var l []api.Node
	add := func(change func(x *api.Node)) {
		x := n
		x.Names, x.Kids = slices.Clone(n.Names), slices.Clone(n.Kids)
		change(&x)
		l = append(l, x)
	}
	add(func(x *api.Node) { x.Kind++ })
	add(func(x *api.Node) { x.Op++ })
	add(func(x *api.Node) { x.N-- })
	add(func(x *api.Node) { x.S += "\x00" })
	add(func(x *api.Node) { x.Names = append(x.Names, "") })
	add(func(x *api.Node) { x.Names = append([]string{"b"}, x.Names...) })
	add(func(x *api.Node) { x.Kids = append(x.Kids, api.Node{}) })
	add(func(x *api.Node) { x.Kids = append([]api.Node{{Kind: 77}}, x.Kids...) })
	if len(n.Names) > 0 {
		add(func(x *api.Node) { x.Names[0] += "?" })
		add(func(x *api.Node) { x.Names = x.Names[1:] })
	}
	for i, k := range n.Kids {
		add(func(x *api.Node) { x.Kids = slices.Delete(x.Kids, i, i+1) })
		for _, c := range changes(k) {
			add(func(x *api.Node) { x.Kids[i] = c })
		}
	}
	return l
}

// P6.3: trees that differ in one field, wherever, are not alike.
func TestSameOfChangedTrees(t *testing.T) {
	m, d := newModel(), dice(3)
	for range 200 {
		n := m.grow(&d, 'B', 5)
		sames(t, n, n, true)
		if tree.Count(n) > 100 {
			continue
		}
		for _, c := range changes(n) {
			sames(t, n, c, false)
		}
	}
}

// moved is a tree with other Ats everywhere, and other memory; lists that are empty are none, or the other way round.
func moved(n api.Node, d *dice) api.Node {
	n.At = d.upTo(5000) - 2500
	n.Names = append(make([]string, 0, d.upTo(3)), n.Names...)
	kids := make([]api.Node, 0, 3)
	for _, k := range n.Kids {
		kids = append(kids, moved(k, d))
	}
	n.Kids = kids
	if len(kids) == 0 && d.upTo(2) == 0 {
		n.Kids = nil
	}
	return n
}

// P6.3: trees that differ in At alone are alike.
func TestSameOfMovedTrees(t *testing.T) {
	m, d := newModel(), dice(4)
	for range 1000 {
		n := m.grow(&d, 'B', 6)
		sames(t, n, moved(n, &d), true)
		sames(t, moved(n, &d), moved(n, &d), true)
	}
	a := api.Node{Kind: api.EName, S: "a", At: math.MaxInt}
	sames(t, a, name("a"), true)
	sames(t, not(a), not(name("a")), true)
}

// P6.3
func TestSame(t *testing.T) {
	a, b := name("a"), name("b")
	sames(t, api.Node{}, api.Node{}, true)
	sames(t, api.Node{}, api.Node{Names: []string{}, Kids: []api.Node{}}, true)
	sames(t, api.Node{Kind: 99, Op: -1, N: math.MinInt, S: "\xff"}, api.Node{Kind: 99, Op: -1, N: math.MinInt, S: "\xff"}, true)
	sames(t, a, b, false)
	sames(t, bin(api.Add, a, b), bin(api.Add, a, b), true)
	sames(t, bin(api.Add, a, b), bin(api.Add, b, a), false)
	sames(t, bin(api.Add, a, b), bin(api.Sub, a, b), false)
	sames(t, block(a, b, a), block(a, a, b), false)
	sames(t, block(a, b), block(a), false)
	sames(t, block(a), block(), false)
	sames(t, block(not(a), b), block(not(a), not(b)), false)
	sames(t, object("x", "y"), object("y", "x"), false)
	sames(t, function("a"), function("a", "b"), false)
	sames(t, str(""), api.Node{Kind: api.EStr, Names: []string{""}}, false)
	sames(t, str("a"), name("a"), false)
	sames(t, not(neg(a)), neg(not(a)), false)
	sames(t, block(block(a), block()), block(block(), block(a)), false)
}

// P6.3
func TestSign(t *testing.T) {
	for op, want := range map[int]string{
		api.Add: "+", api.Sub: "-", api.Mul: "*", api.Div: "/", api.Mod: "%",
		api.Lt: "<", api.Le: "<=", api.Gt: ">", api.Ge: ">=", api.Eq: "==", api.Ne: "!=",
		0: "", 12: "", 13: "", -1: "", -11: "", math.MinInt: "", math.MaxInt: "", 1 << 32: "", 1<<32 + 1: "", 256 + 1: "",
	} {
		if s := tree.Sign(op); s != want {
			t.Errorf("Sign(%d) is %q, not %q", op, s, want)
		}
	}
}

// P6.3
func TestBuilt(t *testing.T) {
	type built struct {
		name  string
		parts int
	}
	for op, want := range map[int]built{
		api.BCount: {"count", 1}, api.BKey: {"key", 2}, api.BHas: {"has", 2}, api.BProto: {"proto", 1}, api.BSetProto: {"setproto", 2}, api.BLen: {"len", 1}, api.BStr: {"str", 1},
		0: {}, 8: {}, 9: {}, -1: {}, -7: {}, math.MinInt: {}, math.MaxInt: {}, 1 << 32: {}, 1<<32 + 1: {}, 256 + 1: {},
	} {
		if s, k := tree.Built(op); s != want.name || k != want.parts {
			t.Errorf("Built(%d) is %q, %d, not %v", op, s, k, want)
		}
	}
}

// P6.2: ranks, of right nodes and of others, by their Kind and their sign alone.
func TestRank(t *testing.T) {
	for kind, want := range map[int]int{
		api.EOr: 1, api.EAnd: 2, api.EUn: 7, api.EGet: 8, api.EIndex: 8, api.ECall: 8, api.EMeth: 8,
		api.ENull: 9, api.EBool: 9, api.EInt: 9, api.EStr: 9, api.EName: 9, api.EThis: 9, api.EObj: 9, api.EFn: 9, api.EBuilt: 9, api.ELocal: 9, api.EGlobal: 9, api.EFun: 9,
		api.SLet: 0, api.SAssign: 0, api.SSet: 0, api.SSetIx: 0, api.SDel: 0, api.SDelIx: 0, api.SPrint: 0, api.SIf: 0, api.SBlock: 0, api.SWhile: 0, api.SReturn: 0, api.SExpr: 0, api.SLocal: 0, api.SGlobal: 0,
		0: 0, -1: 0, 35: 0, 100: 0, math.MinInt: 0, math.MaxInt: 0,
	} {
		for _, n := range []api.Node{{Kind: kind}, {Kind: kind, Op: 1, At: 7}, {Kind: kind, Kids: nulls(2)}, {Kind: kind, Op: api.Eq, N: 4, S: "a", Names: []string{"a"}}} {
			if r := tree.Rank(n); r != want {
				t.Errorf("Rank(%v) is %d, not %d", n, r, want)
			}
		}
	}
	for op, want := range map[int]int{
		api.Add: 5, api.Sub: 5, api.Mul: 6, api.Div: 6, api.Mod: 6, api.Lt: 4, api.Le: 4, api.Gt: 4, api.Ge: 4, api.Eq: 3, api.Ne: 3,
	} {
		for _, n := range []api.Node{{Kind: api.EBin, Op: op}, bin(op, null(), null()), {Kind: api.EBin, Op: op, N: 4, S: "a", At: -1}} {
			if r := tree.Rank(n); r != want {
				t.Errorf("Rank(%v) is %d, not %d", n, r, want)
			}
		}
	}
	for _, op := range []int{0, -1, 12, math.MinInt, math.MaxInt} {
		if r := tree.Rank(api.Node{Kind: api.EBin, Op: op}); r != 9 {
			t.Errorf("the rank of an EBin of %d is %d, not that of other expressions", op, r)
		}
	}
}
