package scope_test

import (
	"math"
	"reflect"
	"slices"
	"strings"
	"testing"

	"proteus/api"
	"proteus/num"
	"proteus/scope"
)

func checks(t *testing.T, u api.Unit, want api.Errno) {
	t.Helper()
	if e := scope.Check(u); e != want {
		t.Errorf("Check(%v) is %v, not %v", u, e, want)
	}
}

func node(kind int, kids ...api.Node) api.Node { return api.Node{Kind: kind, Kids: kids} }

// unitOf has two globals and three functions; the middle one has three locals, and these statements.
func unitOf(l ...api.Node) api.Unit {
	return api.Unit{Globals: 2, Fns: []api.Fn{{Body: []api.Node{expr(null())}}, {Params: 1, Locals: 3, Body: l}, {}}}
}

// asExpr are units with an expression at each place at which one may stand.
func asExpr(e api.Node) []api.Unit {
	a := null()
	var out []api.Unit
	for _, s := range []api.Node{
		expr(e), node(api.SPrint, e), node(api.SReturn, e), node(api.SLocal, e), node(api.SGlobal, e),
		{Kind: api.SSet, S: "x", Kids: []api.Node{e, a}}, {Kind: api.SSet, S: "x", Kids: []api.Node{a, e}},
		node(api.SSetIx, e, a, a), node(api.SSetIx, a, e, a), node(api.SSetIx, a, a, e),
		{Kind: api.SDel, S: "x", Kids: []api.Node{e}}, node(api.SDelIx, e, a), node(api.SDelIx, a, e),
		node(api.SIf, e, block(), block()), node(api.SWhile, e, block()),
	} {
		out = append(out, unitOf(s), unitOf(expr(a), s, expr(a)), unitOf(node(api.SIf, a, block(), block(expr(a), s))))
	}
	for _, x := range []api.Node{
		{Kind: api.EUn, Op: api.Not, Kids: []api.Node{e}},
		{Kind: api.EBin, Op: api.Add, Kids: []api.Node{e, a}}, {Kind: api.EBin, Op: api.Ne, Kids: []api.Node{a, e}},
		node(api.EAnd, e, a), node(api.EAnd, a, e), node(api.EOr, e, a), node(api.EOr, a, e),
		{Kind: api.EGet, S: "x", Kids: []api.Node{e}}, node(api.EIndex, e, a), node(api.EIndex, a, e),
		node(api.ECall, e), node(api.ECall, a, e), node(api.ECall, a, a, a, a, a, a, e),
		{Kind: api.EMeth, S: "x", Kids: []api.Node{e}}, {Kind: api.EMeth, S: "x", Kids: []api.Node{a, a, e}},
		{Kind: api.EObj, Names: []string{"x"}, Kids: []api.Node{e}}, {Kind: api.EObj, Names: []string{"x", "y"}, Kids: []api.Node{a, e}},
		{Kind: api.EBuilt, Op: api.BCount, Kids: []api.Node{e}}, {Kind: api.EBuilt, Op: api.BSetProto, Kids: []api.Node{a, e}},
	} {
		out = append(out, unitOf(expr(x)))
	}
	return out
}

// asStmt does so of a statement.
func asStmt(s api.Node) []api.Unit {
	a := expr(null())
	return []api.Unit{
		unitOf(s), unitOf(a, s), unitOf(s, a), unitOf(append(slices.Repeat([]api.Node{a}, 39), s)...),
		unitOf(node(api.SIf, null(), block(s), block())), unitOf(node(api.SIf, null(), block(), block(a, s))),
		unitOf(node(api.SWhile, null(), block(s))), unitOf(node(api.SWhile, null(), block(node(api.SWhile, null(), block(s))))),
	}
}

// as are units with a node of that use.
func as(use byte, n api.Node) []api.Unit {
	switch use {
	case 'E':
		return asExpr(n)
	case 'S':
		return asStmt(n)
	}
	return []api.Unit{
		unitOf(node(api.SIf, null(), n, block())), unitOf(node(api.SIf, null(), block(), n)), unitOf(node(api.SWhile, null(), n)),
	}
}

func checksAs(t *testing.T, use byte, n api.Node, want api.Errno) {
	t.Helper()
	for _, u := range as(use, n) {
		checks(t, u, want)
	}
}

// plain is a small right node of a line.
func plain(m model, l line) api.Node {
	n := api.Node{Kind: l.kind, Op: min(1, l.ops), S: map[string]string{"name": "a", "property": "x"}[l.s]}
	for _, use := range []byte(m.pattern(n)) {
		n.Kids = append(n.Kids, map[byte]api.Node{'E': null(), 'B': block()}[use])
	}
	return n
}

// P8.2: each kind, wherever its like may stand, and where it may not; those of programs alone nowhere.
func TestCheckOfEachKind(t *testing.T) {
	m := newModel()
	for _, l := range lines() {
		for _, use := range []byte("ESB") {
			want := api.ErrArg
			if l.inUnit && l.use == use {
				want = api.OK
			}
			n := plain(m, l)
			checksAs(t, use, n, want)
			n.At = -5
			checksAs(t, use, n, want)
		}
	}
	for _, kind := range []int{0, -1, 35, 36, 1 << 40, math.MinInt, math.MaxInt} {
		for _, kids := range [][]api.Node{nil, {null()}, {null(), null()}, {expr(null())}} {
			for _, use := range []byte("ESB") {
				checksAs(t, use, node(kind, kids...), api.ErrArg)
			}
		}
	}
	// A block is no statement; nor is it one of a Body.
	checks(t, api.Unit{Fns: []api.Fn{{Body: []api.Node{block()}}}}, api.ErrArg)
	checks(t, api.Unit{Fns: []api.Fn{{Body: []api.Node{expr(null())}}}}, api.OK)
	checks(t, api.Unit{Fns: []api.Fn{{Body: []api.Node{null()}}}}, api.ErrArg)
}

// P8.2: each kind with a field that its line does not name, with too few and with too many Kids.
func TestCheckOfFields(t *testing.T) {
	m := newModel()
	for _, l := range lines() {
		if !l.inUnit {
			continue
		}
		var wrong []api.Node
		change := func(how func(n *api.Node)) {
			n := plain(m, l)
			how(&n)
			wrong = append(wrong, n)
		}
		for _, op := range []int{-1, l.ops + 1, math.MinInt, math.MaxInt} {
			change(func(n *api.Node) { n.Op = op })
		}
		if l.ops > 0 {
			change(func(n *api.Node) { n.Op = 0 })
		}
		change(func(n *api.Node) { n.N = -1 })
		if l.bound == 0 && l.mostN < num.Most {
			change(func(n *api.Node) { n.N = l.mostN + 1 })
		}
		switch l.s {
		case "":
			change(func(n *api.Node) { n.S = "x" })
		case "property":
			for _, s := range []string{"", "9", "a b", "abcdefghijklm"} {
				change(func(n *api.Node) { n.S = s })
			}
		case "string":
			change(func(n *api.Node) { n.S = strings.Repeat("s", 257) })
		}
		change(func(n *api.Node) { n.Names = []string{"x"} })
		change(func(n *api.Node) { n.Names = []string{""} })
		if l.kids != "*" {
			change(func(n *api.Node) { n.Kids = append(n.Kids, null()) })
			change(func(n *api.Node) { n.Kids = append(n.Kids, block()) })
		}
		change(func(n *api.Node) { n.Kids = append(n.Kids, api.Node{}) })
		for i := range plain(m, l).Kids {
			change(func(n *api.Node) { n.Kids = slices.Delete(n.Kids, i, i+1) })
			change(func(n *api.Node) { n.Kids[i] = expr(null()) })
			change(func(n *api.Node) { n.Kids[i] = api.Node{} })
		}
		for _, n := range wrong {
			if l.kind == api.ECall || l.kind == api.EMeth {
				if m.right(n, 'E', counts{}) { // one argument more may be
					continue
				}
			}
			checksAs(t, l.use, n, api.ErrArg)
		}
	}
}

// P8.2: what a line's fields may be, at their edges.
func TestCheckOfEdges(t *testing.T) {
	seven := slices.Repeat([]api.Node{null()}, 7)
	forty := slices.Repeat([]api.Node{null()}, 40)
	properties := slices.Repeat([]string{"if"}, 40)
	for _, n := range []api.Node{
		{Kind: api.EBool, N: 1}, {Kind: api.EInt, N: num.Most}, {Kind: api.EStr}, {Kind: api.EStr, S: strings.Repeat("\xff", 256)},
		{Kind: api.EObj}, {Kind: api.EObj, Names: properties, Kids: forty}, {Kind: api.EUn, Op: api.Neg, Kids: seven[:1]}, {Kind: api.EUn, Op: api.Not, Kids: seven[:1]},
		{Kind: api.EBin, Op: api.Add, Kids: seven[:2]}, {Kind: api.EBin, Op: api.Ne, Kids: seven[:2]}, {Kind: api.EGet, S: "fn", Kids: seven[:1]},
		{Kind: api.ECall, Kids: seven[:1]}, {Kind: api.ECall, Kids: seven}, {Kind: api.EMeth, S: "abcdefghijkl", Kids: seven},
		{Kind: api.EBuilt, Op: api.BCount, Kids: seven[:1]}, {Kind: api.EBuilt, Op: api.BKey, Kids: seven[:2]}, {Kind: api.EBuilt, Op: api.BStr, Kids: seven[:1]},
	} {
		checksAs(t, 'E', n, api.OK)
	}
	for _, n := range []api.Node{
		{Kind: api.EBool, N: 2}, {Kind: api.EInt, N: num.Most + 1}, {Kind: api.EInt, N: num.Least},
		{Kind: api.EObj, Names: append(properties[:40:40], "x"), Kids: append(forty[:40:40], null())},
		{Kind: api.EObj, Names: properties[:2], Kids: forty[:1]}, {Kind: api.EObj, Names: properties[:1], Kids: forty[:2]}, {Kind: api.EObj, Names: []string{"9"}, Kids: forty[:1]},
		{Kind: api.ECall}, {Kind: api.ECall, Kids: forty[:8]}, {Kind: api.EMeth, S: "x"}, {Kind: api.EMeth, S: "x", Kids: forty[:8]},
		{Kind: api.EBuilt, Op: api.BCount, Kids: seven[:2]}, {Kind: api.EBuilt, Op: api.BKey, Kids: seven[:1]}, {Kind: api.EBuilt, Op: api.BKey, Kids: seven[:3]},
	} {
		checksAs(t, 'E', n, api.ErrArg)
	}
	statements := slices.Repeat([]api.Node{expr(null())}, 41)
	checksAs(t, 'B', block(statements[:40]...), api.OK)
	checksAs(t, 'B', block(statements...), api.ErrArg)
	checksAs(t, 'B', block(block()), api.ErrArg)
}

// numbers are nodes with a number, one of each kind.
func numbers(n int) []api.Node {
	return []api.Node{
		{Kind: api.ELocal, N: n}, {Kind: api.SLocal, N: n, Kids: []api.Node{null()}},
		{Kind: api.EGlobal, N: n}, {Kind: api.SGlobal, N: n, Kids: []api.Node{null()}},
		{Kind: api.EFun, N: n},
	}
}

// P8.2: N is from 0 on, and below how many there are: of locals in this function, of globals, of functions.
func TestCheckOfNumbers(t *testing.T) {
	for _, globals := range []int{0, 1, 5, 24} {
		for _, fns := range []int{1, 2, 3, 32} {
			for _, locals := range []int{0, 1, 3, 24} {
				for _, n := range []int{math.MinInt, -1, 0, 1, 2, 3, 4, 5, 6, 23, 24, 25, 31, 32, 33, math.MaxInt} {
					below := []bool{n < locals, n < locals, n < globals, n < globals, n < fns}
					for i, x := range numbers(n) {
						u := api.Unit{Globals: globals, Fns: make([]api.Fn, fns)}
						if fns > 1 {
							u.Fns[1].Locals = 24 // not of those, but of its own does a function have locals
							u.Fns[fns-1].Locals = locals
						} else if locals > 0 {
							continue
						}
						if x.Kind <= api.EFun {
							x = expr(x)
						}
						u.Fns[fns-1].Body = []api.Node{x}
						want := api.ErrArg
						if n >= 0 && below[i] {
							want = api.OK
						}
						checks(t, u, want)
					}
				}
			}
		}
	}
	// Function 0 has no locals, whatever others have.
	u := unitOf()
	u.Fns[0].Body = []api.Node{expr(api.Node{Kind: api.ELocal})}
	checks(t, u, api.ErrArg)
	u.Fns[0].Body = []api.Node{{Kind: api.SLocal, Kids: []api.Node{null()}}}
	checks(t, u, api.ErrArg)
	u.Fns[0].Body = []api.Node{{Kind: api.SGlobal, N: 1, Kids: []api.Node{{Kind: api.EFun, N: 2}}}}
	checks(t, u, api.OK)
}

// P8.2: how many globals, functions, parameters, locals and statements there may be.
func TestCheckOfBounds(t *testing.T) {
	checks(t, api.Unit{}, api.ErrArg)
	checks(t, api.Unit{Globals: 3}, api.ErrArg)
	checks(t, api.Unit{Fns: []api.Fn{}}, api.ErrArg)
	checks(t, api.Unit{Fns: []api.Fn{{}}}, api.OK)
	for globals, want := range map[int]api.Errno{
		math.MinInt: api.ErrArg, -1: api.ErrArg, 0: api.OK, 1: api.OK, 24: api.OK, 25: api.ErrArg, math.MaxInt: api.ErrArg,
	} {
		checks(t, api.Unit{Globals: globals, Fns: []api.Fn{{}}}, want)
		checks(t, api.Unit{Globals: globals, Fns: []api.Fn{{}, {Params: 1, Locals: 1}}}, want)
	}
	for fns, want := range map[int]api.Errno{1: api.OK, 2: api.OK, 31: api.OK, 32: api.OK, 33: api.ErrArg, 1000: api.ErrArg} {
		checks(t, api.Unit{Fns: make([]api.Fn, fns)}, want)
	}
	for _, x := range []struct {
		params, locals int
		want           api.Errno
	}{
		{0, 0, api.OK}, {0, 1, api.OK}, {0, 24, api.OK}, {0, 25, api.ErrArg}, {0, -1, api.ErrArg},
		{1, 0, api.ErrArg}, {1, 1, api.OK}, {1, 24, api.OK}, {1, 25, api.ErrArg},
		{6, 5, api.ErrArg}, {6, 6, api.OK}, {6, 24, api.OK}, {6, 25, api.ErrArg},
		{7, 7, api.ErrArg}, {7, 24, api.ErrArg}, {-1, 0, api.ErrArg}, {-1, 24, api.ErrArg}, {-1, -1, api.ErrArg},
		{0, math.MaxInt, api.ErrArg}, {0, math.MinInt, api.ErrArg}, {math.MinInt, 0, api.ErrArg}, {math.MaxInt, math.MaxInt, api.ErrArg},
	} {
		f := api.Fn{Params: x.params, Locals: x.locals}
		checks(t, api.Unit{Fns: []api.Fn{{}, f}}, x.want)
		checks(t, api.Unit{Fns: []api.Fn{{}, f, {}}}, x.want)
		checks(t, api.Unit{Fns: append(make([]api.Fn, 31), f)}, x.want)
		if f.Params != 0 || f.Locals != 0 {
			x.want = api.ErrArg
		}
		checks(t, api.Unit{Globals: 24, Fns: []api.Fn{f}}, x.want)
		checks(t, api.Unit{Globals: 24, Fns: []api.Fn{f, {Params: 1, Locals: 1}}}, x.want)
	}
	for statements, want := range map[int]api.Errno{0: api.OK, 1: api.OK, 39: api.OK, 40: api.OK, 41: api.ErrArg, 300: api.ErrArg} {
		l := slices.Repeat([]api.Node{expr(null())}, statements)
		checks(t, api.Unit{Fns: []api.Fn{{Body: l}}}, want)
		checks(t, unitOf(l...), want)
		checks(t, api.Unit{Fns: append(make([]api.Fn, 31), api.Fn{Body: l})}, want)
	}
}

// high is a right statement of that height.
func high(h int) api.Node {
	n := null()
	for range h - 2 {
		n = api.Node{Kind: api.EUn, Op: api.Not, Kids: []api.Node{n}}
	}
	return expr(n)
}

// P8.2: a statement may be 12 high; a higher one is ErrDeep, ahead of whatever else is wrong.
func TestCheckOfHeight(t *testing.T) {
	within := func(s api.Node) api.Node { return node(api.SIf, null(), block(), block(expr(null()), s)) }
	for h := 2; h <= 20; h++ {
		want := api.OK
		if h > 12 {
			want = api.ErrDeep
		}
		checks(t, unitOf(high(h)), want)
		checks(t, unitOf(expr(null()), high(h)), want)
		checks(t, api.Unit{Fns: []api.Fn{{Body: []api.Node{high(h)}}}}, want)
		checks(t, api.Unit{Fns: append(make([]api.Fn, 31), api.Fn{Body: []api.Node{high(h)}})}, want)
		if h > 3 {
			checks(t, unitOf(within(high(h-2))), want)
		}
	}
	deep := []api.Node{high(13)}
	wrong := expr(api.Node{Kind: api.EName, S: "a"})
	for _, u := range []api.Unit{
		{Globals: -1, Fns: []api.Fn{{Body: deep}}},
		{Globals: 25, Fns: []api.Fn{{Body: deep}}},
		{Fns: append(make([]api.Fn, 32), api.Fn{Body: deep})},
		{Fns: []api.Fn{{Params: 1, Locals: 1, Body: deep}}},
		{Fns: []api.Fn{{Params: 1, Locals: 1}, {Body: deep}}},
		{Fns: []api.Fn{{Body: deep}, {Params: 7, Locals: 7}}},
		{Fns: []api.Fn{{}, {Params: 2, Locals: 1, Body: deep}}},
		{Fns: []api.Fn{{}, {Params: 0, Locals: 25}, {Body: deep}}},
		{Fns: []api.Fn{{Body: append(slices.Repeat([]api.Node{expr(null())}, 40), deep...)}}},
		{Fns: []api.Fn{{Body: []api.Node{wrong}}, {Body: deep}}},
		{Fns: []api.Fn{{Body: []api.Node{wrong, deep[0]}}}},
		{Fns: []api.Fn{{Body: []api.Node{deep[0], wrong}}}},
		{Fns: []api.Fn{{Body: []api.Node{block(deep...)}}}},
		{Fns: []api.Fn{{Body: []api.Node{{Kind: -3, N: 7, Kids: deep}}}}},
	} {
		checks(t, u, api.ErrDeep)
	}
	// A block that can't be a statement, and is not too high: its height is not what is wrong.
	checks(t, api.Unit{Fns: []api.Fn{{Body: []api.Node{block(high(11))}}}}, api.ErrArg)
	checks(t, api.Unit{Fns: []api.Fn{{Body: []api.Node{block(high(12))}}}}, api.ErrDeep)
	// As deep as can be.
	n := null()
	for range 1 << 15 {
		n = node(api.EUn, n)
	}
	checks(t, unitOf(expr(n)), api.ErrDeep)
}

// grownUnit is a unit that may be, unless it is too high.
func grownUnit(m model, d *dice) api.Unit {
	u := api.Unit{Globals: d.upTo(25), Fns: make([]api.Fn, 1+d.upTo(1+d.upTo(1+d.upTo(32))))}
	most := 2 + d.upTo(12)
	lines := rows(true)
	for i := range u.Fns {
		f := &u.Fns[i]
		if i > 0 {
			f.Params = d.upTo(7)
			f.Locals = f.Params + d.upTo(25-f.Params)
		}
		g := &grower{model: m, dice: d, rows: lines, counts: countsOf(u, *f)}
		for range d.upTo(4) {
			f.Body = append(f.Body, g.grow('S', most))
		}
	}
	return u
}

// changed is a unit with one thing changed in it, or, by chance, none.
func changed(d *dice, u api.Unit) api.Unit {
	u = copiedUnit(u)
	f := &u.Fns[d.upTo(len(u.Fns))]
	nodes := flat(f.Body)
	if d.upTo(4) > 0 && len(nodes) > 0 {
		changeNode(d, nodes[d.upTo(len(nodes))])
		return u
	}
	switch d.upTo(5) {
	case 0:
		u.Globals = d.upTo(28) - 2
	case 1:
		u.Fns = append(u.Fns, make([]api.Fn, d.upTo(33))...)
	case 2:
		f.Params += d.upTo(5) - 2
	case 3:
		f.Locals += d.upTo(9) - 4
	case 4:
		f.Body = append(f.Body, slices.Repeat([]api.Node{expr(null())}, d.upTo(41))...)
	}
	return u
}

// changeNode changes one field.
func changeNode(d *dice, n *api.Node) {
	switch d.upTo(7) {
	case 0:
		n.Kind = d.upTo(37) - 1
	case 1:
		n.Op = d.upTo(14) - 1
	case 2:
		n.N += d.upTo(9) - 4
	case 3:
		n.S = d.some("", "x", "if", "9", "abcdefghijklm", strings.Repeat("s", 257))
	case 4:
		n.Names = append(n.Names, d.some("x", "if", ""))
	case 5:
		n.Kids = append(n.Kids, []api.Node{null(), expr(null()), block(), {}}[d.upTo(4)])
	case 6:
		if len(n.Kids) > 0 {
			i := d.upTo(len(n.Kids))
			n.Kids[i] = []api.Node{null(), expr(null()), block(), {Kind: api.EFun, N: d.upTo(3)}}[d.upTo(4)]
		}
	}
}

// unplaced is a unit anew without places, and with none for empty lists.
func unplaced(u api.Unit) api.Unit {
	u = bareUnit(u)
	for _, f := range u.Fns {
		for _, n := range flat(f.Body) {
			n.At = 0
		}
	}
	return u
}

// P8.2: mixed units against the tables; and what is changed in them is not the same.
func TestMixedUnits(t *testing.T) {
	m := newModel()
	d := dice(8)
	seen := map[api.Errno]int{}
	differ := 0
	for range 8000 {
		u := grownUnit(m, &d)
		v := changed(&d, u)
		for _, x := range []api.Unit{u, v} {
			want := m.check(x)
			seen[want]++
			if got := scope.Check(x); got != want {
				t.Fatalf("Check(%v) is %v, not %v", x, got, want)
			}
		}
		same := reflect.DeepEqual(unplaced(u), unplaced(v))
		if scope.Same(u, v) != same || scope.Same(v, u) != same {
			t.Fatalf("Same(%v, %v) is not %v", u, v, same)
		}
		if !same {
			differ++
		}
	}
	if seen[api.OK] < 5000 || seen[api.ErrArg] < 3000 || seen[api.ErrDeep] < 500 || differ < 6000 || differ > 11900 {
		t.Errorf("the units are of one sort: %v, %d differ", seen, differ)
	}
}

// P8.2: units that differ in one place alone, and units that differ in places of nodes alone.
func TestSame(t *testing.T) {
	const s = "let o = {x: 1, y: \"s\"}; let p = fn(a, b) { let c = -a; return c + b(o, 1); }; if (o) { o.x = p; } else { p(o); }"
	u := resolved(t, s)
	if !scope.Same(u, u) || !scope.Same(u, resolved(t, s)) || !scope.Same(api.Unit{}, api.Unit{}) || scope.Same(u, api.Unit{}) || scope.Same(api.Unit{}, u) {
		t.Error("a unit is the same as itself, and as no other one")
	}
	places := copiedUnit(u)
	for i, f := range places.Fns {
		for j, n := range flat(f.Body) {
			n.At = 100*i + j + 1
		}
	}
	if !scope.Same(u, places) || !scope.Same(places, u) {
		t.Error("places are not asked")
	}
	// No list and an empty one are one.
	lists := copiedUnit(u)
	for i, f := range lists.Fns {
		for _, n := range flat(f.Body) {
			n.Kids, n.Names = append([]api.Node{}, n.Kids...), append([]string{}, n.Names...)
		}
		lists.Fns[i].Body = append([]api.Node{}, f.Body...)
	}
	if !scope.Same(u, lists) || !scope.Same(lists, bareUnit(u)) || !scope.Same(api.Unit{}, api.Unit{Fns: []api.Fn{}}) || scope.Check(lists) != api.OK {
		t.Error("an empty list is none")
	}
	different := func(change func(u *api.Unit)) {
		t.Helper()
		v := copiedUnit(u)
		change(&v)
		if scope.Same(u, v) || scope.Same(v, u) {
			t.Errorf("%v is not the same as %v", u, v)
		}
	}
	different(func(u *api.Unit) { u.Globals++ })
	different(func(u *api.Unit) { u.Fns = u.Fns[:1] })
	different(func(u *api.Unit) { u.Fns = append(u.Fns, api.Fn{}) })
	different(func(u *api.Unit) { u.Fns[0], u.Fns[1] = u.Fns[1], u.Fns[0] })
	for i := range u.Fns {
		different(func(u *api.Unit) { u.Fns[i].Params++ })
		different(func(u *api.Unit) { u.Fns[i].Locals++ })
		different(func(u *api.Unit) { u.Fns[i].Body = u.Fns[i].Body[1:] })
		different(func(u *api.Unit) { u.Fns[i].Body = append(u.Fns[i].Body, expr(null())) })
		for j := range flat(u.Fns[i].Body) {
			for _, change := range []func(n *api.Node){
				func(n *api.Node) { n.Kind++ }, func(n *api.Node) { n.Op++ }, func(n *api.Node) { n.N++ }, func(n *api.Node) { n.S += "x" },
				func(n *api.Node) { n.Names = append(n.Names, "") }, func(n *api.Node) { n.Kids = append(n.Kids, api.Node{}) },
			} {
				different(func(u *api.Unit) { change(flat(u.Fns[i].Body)[j]) })
			}
		}
	}
	// Units that may not be are held against each other as well.
	if !scope.Same(api.Unit{Globals: -1}, api.Unit{Globals: -1}) || scope.Same(api.Unit{Globals: -1}, api.Unit{Globals: -2}) {
		t.Error("Same does not ask whether units may be")
	}
}

// P8.2, R3: what is handed in is not changed, its spare room included.
func TestCheckAndSameChangeNothing(t *testing.T) {
	m := newModel()
	d := dice(3)
	for range 300 {
		u := grownUnit(m, &d)
		if d.upTo(2) == 0 {
			u = changed(&d, u)
		}
		u = roomyUnit(u)
		before := copiedUnit(u)
		scope.Check(u)
		scope.Same(u, roomyUnit(u))
		if !reflect.DeepEqual(u, before) || u.Fns[:len(u.Fns)+1][len(u.Fns)].Params != -9 {
			t.Fatalf("%v was changed", u)
		}
		for _, f := range u.Fns {
			if !areRoomy(f.Body) {
				t.Fatalf("the room of %v was changed", f)
			}
		}
	}
}
