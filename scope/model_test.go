package scope_test

import (
	"slices"
	"strings"

	"proteus/api"
	"proteus/num"
	"proteus/text"
)

// line is what the chapters' tables say of a kind.
type line struct {
	kind   int
	use    byte   // 'E' an expression, 'S' a statement, 'B' a block
	inTree bool   // whether it is in programs
	inUnit bool   // whether it is in units
	ops    int    // an Op is from 1 to that
	mostN  int    // N is from 0 to that,
	bound  byte   // or below how many locals (l), globals (g), functions (f) there are
	s      string // what S is: a name, a property, a string
	names  string // what Names are
	kids   string // what Kids are, in order; * is any number of statements, + up to six more expressions, o as many as Names, b as the Op says
}

// lines is the table of chapter 6, with what chapter 8 has in the place of names.
func lines() []line {
	both := []line{
		{kind: api.ENull, use: 'E'}, {kind: api.EThis, use: 'E'},
		{kind: api.EBool, use: 'E', mostN: 1}, {kind: api.EInt, use: 'E', mostN: num.Most},
		{kind: api.EStr, use: 'E', s: "string"}, {kind: api.EObj, use: 'E', names: "property", kids: "o"},
		{kind: api.EUn, use: 'E', ops: 2, kids: "E"}, {kind: api.EBin, use: 'E', ops: 11, kids: "EE"},
		{kind: api.EAnd, use: 'E', kids: "EE"}, {kind: api.EOr, use: 'E', kids: "EE"},
		{kind: api.EGet, use: 'E', s: "property", kids: "E"}, {kind: api.EIndex, use: 'E', kids: "EE"},
		{kind: api.ECall, use: 'E', kids: "E+"}, {kind: api.EMeth, use: 'E', s: "property", kids: "E+"},
		{kind: api.EBuilt, use: 'E', ops: 7, kids: "b"},
		{kind: api.SSet, use: 'S', s: "property", kids: "EE"}, {kind: api.SSetIx, use: 'S', kids: "EEE"},
		{kind: api.SDel, use: 'S', s: "property", kids: "E"}, {kind: api.SDelIx, use: 'S', kids: "EE"},
		{kind: api.SPrint, use: 'S', kids: "E"}, {kind: api.SReturn, use: 'S', kids: "E"}, {kind: api.SExpr, use: 'S', kids: "E"},
		{kind: api.SIf, use: 'S', kids: "EBB"}, {kind: api.SWhile, use: 'S', kids: "EB"},
		{kind: api.SBlock, use: 'B', kids: "*"},
	}
	for i := range both {
		both[i].inTree, both[i].inUnit = true, true
	}
	return append(both, []line{
		{kind: api.EName, use: 'E', inTree: true, s: "name"},
		{kind: api.EFn, use: 'E', inTree: true, names: "name", kids: "*"},
		{kind: api.SLet, use: 'S', inTree: true, s: "name", kids: "E"},
		{kind: api.SAssign, use: 'S', inTree: true, s: "name", kids: "E"},
		{kind: api.ELocal, use: 'E', inUnit: true, bound: 'l'},
		{kind: api.EGlobal, use: 'E', inUnit: true, bound: 'g'},
		{kind: api.EFun, use: 'E', inUnit: true, bound: 'f'},
		{kind: api.SLocal, use: 'S', inUnit: true, bound: 'l', kids: "E"},
		{kind: api.SGlobal, use: 'S', inUnit: true, bound: 'g', kids: "E"},
	}...)
}

// rows are the lines of units, or those of programs.
func rows(inUnit bool) []line {
	return slices.DeleteFunc(lines(), func(l line) bool { return inUnit && !l.inUnit || !inUnit && !l.inTree })
}

// model is the table, by kinds.
type model map[int]line

func newModel() model {
	m := model{}
	for _, l := range lines() {
		m[l.kind] = l
	}
	return m
}

// counts is how many of what bounds name there are.
type counts map[byte]int

func countsOf(u api.Unit, f api.Fn) counts {
	return counts{'l': f.Locals, 'g': u.Globals, 'f': len(u.Fns)}
}

// pattern is what a node's Kids must be, a letter each.
func (m model) pattern(n api.Node) string {
	switch kids := m[n.Kind].kids; kids {
	case "*":
		return strings.Repeat("S", min(len(n.Kids), 40))
	case "o":
		return strings.Repeat("E", min(len(n.Names), 40))
	case "E+":
		return strings.Repeat("E", max(1, min(len(n.Kids), 7)))
	case "b":
		return strings.Repeat("E", [...]int{0, 1, 2, 2, 1, 2, 1, 1}[n.Op])
	default:
		return kids
	}
}

// may asks whether a text is one of a sort.
func may(sort, s string) bool {
	switch sort {
	case "property":
		return text.IsName(s)
	case "string":
		return len(s) <= 256
	}
	return s == ""
}

// right asks whether a node of a unit may be used so.
func (m model) right(n api.Node, use byte, c counts) bool {
	l, ok := m[n.Kind]
	if !ok || !l.inUnit || l.use != use || !may(l.s, n.S) {
		return false
	}
	mostN := l.mostN
	if l.bound != 0 {
		mostN = c[l.bound] - 1
	}
	if n.Op < min(1, l.ops) || n.Op > l.ops || n.N < 0 || n.N > mostN {
		return false
	}
	most := map[string]int{"": 0, "property": 40}[l.names]
	if len(n.Names) > most || slices.ContainsFunc(n.Names, func(s string) bool { return !may(l.names, s) }) {
		return false
	}
	return m.rightKids(n, c)
}

func (m model) rightKids(n api.Node, c counts) bool {
	p := m.pattern(n)
	if len(n.Kids) != len(p) {
		return false
	}
	for i, k := range n.Kids {
		if !m.right(k, p[i], c) {
			return false
		}
	}
	return true
}

// height goes through a tree row by row.
func height(n api.Node) int {
	h := 0
	for row := []api.Node{n}; len(row) > 0; h++ {
		var next []api.Node
		for _, k := range row {
			next = append(next, k.Kids...)
		}
		row = next
	}
	return h
}

// check is what Check must say.
func (m model) check(u api.Unit) api.Errno {
	for _, f := range u.Fns {
		if slices.ContainsFunc(f.Body, func(n api.Node) bool { return height(n) > 12 }) {
			return api.ErrDeep
		}
	}
	if u.Globals < 0 || u.Globals > 24 || len(u.Fns) < 1 || len(u.Fns) > 32 {
		return api.ErrArg
	}
	if u.Fns[0].Params != 0 || u.Fns[0].Locals != 0 {
		return api.ErrArg
	}
	for _, f := range u.Fns {
		if f.Params < 0 || f.Params > 6 || f.Locals < f.Params || f.Locals > 24 || len(f.Body) > 40 {
			return api.ErrArg
		}
		if slices.ContainsFunc(f.Body, func(n api.Node) bool { return !m.right(n, 'S', countsOf(u, f)) }) {
			return api.ErrArg
		}
	}
	return api.OK
}

// dice is a row of numbers that looks like chance, and is the same each time.
type dice uint64

func (d *dice) upTo(n int) int {
	*d = *d*6364136223846793005 + 1442695040888963407
	return int(uint64(*d) >> 33 % uint64(n))
}

func (d *dice) some(l ...string) string { return l[d.upTo(len(l))] }

// grower makes right nodes. What names and numbers they have, its fields say.
type grower struct {
	model
	*dice
	rows   []line                              // those that it may take
	counts counts                              // of a unit
	name   func(kind int) string               // of a program: a name for a node of that kind
	within func(grow func() api.Node) api.Node // of a program: around all that makes an EFn
}

// fits asks whether a line is of that use, and can be of that height.
func (g *grower) fits(l line, use byte, height int) bool {
	if l.use != use || l.bound != 0 && g.counts[l.bound] < 1 {
		return false
	}
	return height > 1 || l.kids == "" || l.kids == "*" || l.kids == "o"
}

// grow makes a node of that use, of about that height.
func (g *grower) grow(use byte, height int) api.Node {
	l := g.rows[g.upTo(len(g.rows))]
	for !g.fits(l, use, height) {
		l = g.rows[g.upTo(len(g.rows))]
	}
	if l.kind == api.EFn {
		return g.within(func() api.Node { return g.node(l, height) })
	}
	return g.node(l, height)
}

// node makes one of that line.
func (g *grower) node(l line, height int) api.Node {
	n := api.Node{Kind: l.kind, At: g.upTo(1000) - 1}
	switch l.s {
	case "name":
		n.S = g.name(l.kind)
	case "property":
		n.S = g.some("x", "y", "if", "key", "_9", "abcdefghijkl", "v1")
	case "string":
		n.S = g.some("", "a", `"\`, "\n\xff", strings.Repeat("s", 256), "v1")
	}
	if l.ops > 0 {
		n.Op = 1 + g.upTo(l.ops)
	}
	if l.mostN > 0 {
		n.N = [...]int{0, 1, min(42, l.mostN), l.mostN}[g.upTo(4)]
	}
	if l.bound != 0 {
		n.N = g.upTo(g.counts[l.bound])
	}
	for _, use := range []byte(g.plan(&n, height)) {
		n.Kids = append(n.Kids, g.grow(use, height-1))
	}
	return n
}

// plan is what the Kids of a node will be, a letter each; it gives it its Names.
func (g *grower) plan(n *api.Node, height int) string {
	l := g.model[n.Kind]
	switch {
	case l.names == "name":
		for range g.upTo(4) {
			n.Names = append(n.Names, g.name(api.EFn))
		}
	case l.names == "property" && height > 1:
		for range g.upTo(4) {
			n.Names = append(n.Names, g.some("x", "y", "if", "_9", "v1"))
		}
	}
	switch {
	case l.kids == "*" && height > 2:
		return strings.Repeat("S", g.upTo(4))
	case l.kids == "E+":
		return strings.Repeat("E", 1+g.upTo(3))
	}
	return g.pattern(*n)
}
