package compile_test

import (
	"slices"
	"strconv"
	"testing"

	"proteus/api"
	"proteus/code"
	"proteus/scope"
)

// dice is a row of numbers that looks like chance, and is the same each time.
type dice uint64

func (d *dice) upTo(n int) int {
	*d = *d*6364136223846793005 + 1442695040888963407
	return int(uint64(*d) >> 33 % uint64(n))
}

// grower makes nodes that may be, of any sense or none.
type grower struct {
	dice
	locals, globals, fns int
	texts                int  // how many strings it has to choose from
	kids                 int  // how many there are in a list at most
	full                 bool // calls have as many values as they may, nodes are as high as they may be
}

func (g *grower) name() string { return "x" + strconv.Itoa(g.upTo(g.texts)) }

func (g *grower) text() string { return []string{"", "\x00", g.name(), g.name()}[g.upTo(4)] }

// leaf is an expression without Kids.
func (g *grower) leaf() api.Node {
	switch g.upTo(9) {
	case 0:
		return null()
	case 1:
		return node(api.EThis)
	case 2:
		return numbered(api.EBool, g.upTo(2))
	case 3:
		return whole(g.upTo(1000))
	case 4:
		return numbered(api.EFun, g.upTo(g.fns))
	case 5:
		return object("")
	case 6:
		if g.locals > 0 {
			return local(g.upTo(g.locals))
		}
	case 7:
		if g.globals > 0 {
			return global(g.upTo(g.globals))
		}
	}
	return quoted(g.text())
}

// exprs are some.
func (g *grower) exprs(n, high int) []api.Node {
	l := body()
	for range n {
		l = append(l, g.expr(high))
	}
	return l
}

// args are an expression and what a call gives; one of them is high, where it is to be full.
func (g *grower) args(high int) []api.Node {
	if !g.full {
		return g.exprs(1+g.upTo(maxParams+1), high)
	}
	return append(g.exprs(maxParams, 1), g.expr(high))
}

// expr is of at most that height.
func (g *grower) expr(high int) api.Node {
	if high < 2 || !g.full && g.upTo(4) == 0 {
		return g.leaf()
	}
	high--
	kind := g.upTo(11)
	if g.full && g.upTo(12) > 0 {
		kind = 10 - g.upTo(4)/3*3
	}
	switch kind {
	case 0:
		n := object("", g.exprs(g.upTo(g.kids+1), high)...)
		for range n.Kids {
			n.Names = append(n.Names, g.name())
		}
		return n
	case 1:
		return signed(api.EUn, 1+g.upTo(2), g.expr(high))
	case 2:
		return signed(api.EBin, 1+g.upTo(11), g.exprs(2, high)...)
	case 3:
		return node(api.EAnd, g.exprs(2, high)...)
	case 4:
		return node(api.EOr, g.exprs(2, high)...)
	case 5:
		return named(api.EGet, g.name(), g.expr(high))
	case 6:
		return node(api.EIndex, g.exprs(2, high)...)
	case 7, 8:
		return node(api.ECall, g.args(high)...)
	case 9:
		op := g.upTo(7)
		return signed(api.EBuilt, op+1, g.exprs([]int{1, 2, 2, 1, 2, 1, 1}[op], high)...)
	}
	return named(api.EMeth, g.name(), g.args(high)...)
}

// block is one of at most that height.
func (g *grower) block(high int) api.Node {
	n := block()
	if high < 3 {
		return n
	}
	for range g.upTo(g.kids + 1) {
		n.Kids = append(n.Kids, g.stmt(high-1))
	}
	return n
}

// stmt is of at most that height, which is 2 or more.
func (g *grower) stmt(high int) api.Node {
	high--
	switch g.upTo(12) {
	case 0:
		if g.locals > 0 {
			return numbered(api.SLocal, g.upTo(g.locals), g.expr(high))
		}
	case 1:
		if g.globals > 0 {
			return numbered(api.SGlobal, g.upTo(g.globals), g.expr(high))
		}
	case 2:
		return named(api.SSet, g.name(), g.exprs(2, high)...)
	case 3:
		return node(api.SSetIx, g.exprs(3, high)...)
	case 4:
		return named(api.SDel, g.name(), g.expr(high))
	case 5:
		return node(api.SDelIx, g.exprs(2, high)...)
	case 6:
		return node(api.SPrint, g.expr(high))
	case 7:
		return answer(g.expr(high))
	case 8, 9:
		return node(api.SIf, g.expr(high), g.block(high), g.block(high))
	case 10:
		return node(api.SWhile, g.expr(high), g.block(high))
	}
	return expr(g.expr(high))
}

// grown is a unit that may be: most are small; some have too much.
func grown(seed int) api.Unit {
	g := &grower{dice: dice(seed * 1000003), texts: 6, kids: 3}
	high, stmts := 6, 4
	switch seed % 20 {
	case 7: // deep stacks
		g.full, g.kids = true, 1
		high, stmts = maxNest, 2
	case 8: // many strings
		g.texts, g.kids = 300, 20
		high, stmts = 4, 30
	case 9: // many instructions
		g.texts, g.kids = 20, 10
		high, stmts = 7, maxKids
	}
	u := api.Unit{Globals: g.upTo(4), Fns: make([]api.Fn, 1+g.upTo(4))}
	g.globals, g.fns = u.Globals, len(u.Fns)
	for f := range u.Fns {
		fn := &u.Fns[f]
		if f > 0 {
			fn.Params = g.upTo(3)
			fn.Locals = fn.Params + g.upTo(3)
		}
		g.locals = fn.Locals
		for range g.upTo(stmts + 1) {
			if g.full {
				fn.Body = append(fn.Body, g.stmt(high))
				continue
			}
			fn.Body = append(fn.Body, g.stmt(2+g.upTo(high-1)))
		}
	}
	return u
}

// holdModel asks that a unit that may be comes to what the table says; and P15.3 of it.
func holdModel(t *testing.T, u api.Unit) api.Errno {
	t.Helper()
	if e := scope.Check(u); e != api.OK {
		t.Fatal("the test's own unit may not be:", e, u)
	}
	want, wantErr := modelUnit(u)
	if wantErr != api.OK {
		wrong(t, "a unit that has too much", u, wantErr)
		return wantErr
	}
	p := right(t, u)
	if code.Same(p, want) {
		return api.OK
	}
	for f := range p.Codes {
		if got, is := toldCode(p.Codes[f]), toldCode(want.Codes[f]); got != is {
			t.Fatalf("function %d of %v\ncomes to %s\nnot to   %s", f, u, got, is)
		}
	}
	t.Fatalf("%v comes to %v, not to %v", u, p, want)
	return api.OK
}

// P15.1, P15.3: units of all sorts, against the table.
func TestMixed(t *testing.T) {
	const units = 2000
	type sort struct {
		seed int
		err  api.Errno
	}
	seen := map[sort]int{}
	for seed := range units {
		seen[sort{seed % 20, holdModel(t, grown(seed))}]++
	}
	for _, s := range []sort{{0, api.OK}, {7, api.OK}, {7, api.ErrDeep}, {8, api.OK}, {8, api.ErrFull}, {9, api.OK}, {9, api.ErrFull}} {
		if seen[s] < units/200 {
			t.Errorf("only %d of %d units of sort %d come to %v", seen[s], units/20, s.seed, s.err)
		}
	}
}

// each is an expression of each kind that has Kids, with that one as each of these in turn, the others being plain.
func each(within api.Node) []api.Node {
	var out []api.Node
	for _, n := range []api.Node{
		object("x", null()), object("x y", null(), null()), signed(api.EUn, api.Neg, null()), signed(api.EBin, api.Sub, null(), null()),
		node(api.EAnd, null(), null()), node(api.EOr, null(), null()), named(api.EGet, "g", null()), node(api.EIndex, null(), null()),
		node(api.ECall, null()), node(api.ECall, null(), null(), null()), named(api.EMeth, "m", null()), named(api.EMeth, "m", null(), null()),
		signed(api.EBuilt, api.BCount, null()), signed(api.EBuilt, api.BSetProto, null(), null()),
	} {
		for i := range n.Kids {
			m := n
			m.Kids = slices.Clone(n.Kids)
			m.Kids[i] = within
			out = append(out, m)
		}
	}
	return out
}

// leaves are an expression of each kind that has no Kids.
func leaves() []api.Node {
	return body(null(), node(api.EThis), numbered(api.EBool, 1), whole(5), quoted("s"), quoted(""), numbered(api.EFun, 1), local(1), global(1), object(""))
}

// stmts are a statement of each kind, with an expression as each of its Kids in turn, and with a block as each of these.
func stmts(n api.Node) []api.Node {
	some := block(expr(null()))
	return body(
		numbered(api.SLocal, 1, n), numbered(api.SGlobal, 1, n), named(api.SSet, "p", n, null()), named(api.SSet, "p", null(), n),
		node(api.SSetIx, n, null(), null()), node(api.SSetIx, null(), n, null()), node(api.SSetIx, null(), null(), n),
		named(api.SDel, "p", n), node(api.SDelIx, n, null()), node(api.SDelIx, null(), n), node(api.SPrint, n), answer(n), expr(n),
		node(api.SIf, n, block(), block()), node(api.SIf, n, some, block()), node(api.SIf, n, block(), some), node(api.SIf, n, some, some),
		node(api.SWhile, n, block()), node(api.SWhile, n, some),
	)
}

// P15.1, P15.3: each expression inside each other one, and inside each statement, at each place.
func TestEachInEach(t *testing.T) {
	ask := func(l ...api.Node) {
		holdModel(t, program(2, nil, api.Fn{Locals: 2, Body: l}))
	}
	for _, a := range leaves() {
		for _, s := range stmts(a) {
			ask(s)
		}
		for _, b := range each(a) {
			for _, s := range stmts(b) {
				ask(s, expr(a))
			}
		}
	}
	for _, b := range each(node(api.EThis)) {
		for _, c := range each(b) {
			ask(expr(c), expr(b))
			for _, d := range each(c) {
				ask(expr(d))
			}
		}
	}
}

// P15.1, P15.3: each statement inside each block of another one, twice over.
func TestStatementsInStatements(t *testing.T) {
	within := func(s api.Node) []api.Node {
		l := body()
		for _, b := range []api.Node{block(s), block(s, s), block(expr(null()), s), block(s, expr(null()))} {
			l = append(l, node(api.SIf, null(), b, block()), node(api.SIf, null(), block(), b), node(api.SIf, null(), b, b), node(api.SWhile, null(), b))
		}
		return l
	}
	for _, s := range stmts(node(api.EThis)) {
		for _, a := range within(s) {
			holdModel(t, program(2, nil, api.Fn{Locals: 2, Body: body(a)}))
			for _, b := range within(a) {
				holdModel(t, program(2, nil, api.Fn{Locals: 2, Body: body(b, s)}))
			}
		}
	}
}

// P15.1, P15.3: what comes of texts, against the table.
func TestTexts(t *testing.T) {
	for _, src := range []string{
		"",
		"return 1;",
		"print 1 + 2;",
		"let f = fn(a) { return a * 2; }; return f(21);",
		"let p = {x: 1}; let o = setproto({}, p); print o.x; p.x = 2; print o.x;",
		"let o = {a: 1, b: 2}; delete o.a; o.a = 3; print key(o, 0);",
		"let a = {}; setproto(a, a);",
		"print 1 / 0; print 1 + \"a\";",
		"while (true) {}",
		"let f = fn() { return f(); }; f();",
		"let o = {f: fn(a, b) { return this.g(a)[b] || a && !b; }, g: fn(a) { delete a[\"x\"]; a[str(a)] = len(\"\"); return a; }}; if (o.f({}, null) != null) { print -o.n; } else { while (count(o) < 3) { o[\"n\"] = has(o, \"n\"); } }",
		"let f = fn() { return fn() { return fn() { return \"a\" + \"b\"; }; }; }; print f()()(); print \"b\";",
	} {
		if e := holdModel(t, load(t, src)); e != api.OK {
			t.Errorf("%s comes to %v", src, e)
		}
	}
}
