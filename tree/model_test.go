package tree_test

import (
	"slices"
	"strconv"
	"strings"

	"proteus/api"
	"proteus/num"
	"proteus/text"
)

// line is what the chapter's table says of a kind.
type line struct {
	kind  int
	use   byte   // 'E' an expression, 'S' a statement, 'B' a block
	ops   int    // an Op is from 1 to that
	mostN int    // N is from 0 to that
	s     string // what S is: a name, a property, a string
	names string // what Names are
	kids  string // what Kids are, in order; * is any number of statements, + up to six more expressions, o as many as Names, b as Built says
	form  string // how it is written: see written
}

// lines is the chapter's table, in its order.
func lines() []line {
	return []line{
		{kind: api.ENull, use: 'E', form: "null"},
		{kind: api.EThis, use: 'E', form: "this"},
		{kind: api.EBool, use: 'E', mostN: 1, form: "$t"},
		{kind: api.EInt, use: 'E', mostN: num.Most, form: "$d"},
		{kind: api.EStr, use: 'E', s: "string", form: "$q"},
		{kind: api.EName, use: 'E', s: "name", form: "$s"},
		{kind: api.EObj, use: 'E', names: "property", kids: "o", form: "{$f}"},
		{kind: api.EFn, use: 'E', names: "name", kids: "*", form: "fn($n) $k"},
		{kind: api.EUn, use: 'E', ops: 2, kids: "E", form: "$m$u0"},
		{kind: api.EBin, use: 'E', ops: 11, kids: "EE", form: "$l0 $o $r1"},
		{kind: api.EAnd, use: 'E', kids: "EE", form: "$l0 && $r1"},
		{kind: api.EOr, use: 'E', kids: "EE", form: "$l0 || $r1"},
		{kind: api.EGet, use: 'E', s: "property", kids: "E", form: "$h0.$s"},
		{kind: api.EIndex, use: 'E', kids: "EE", form: "$h0[$p1]"},
		{kind: api.ECall, use: 'E', kids: "E+", form: "$c0($a1)"},
		{kind: api.EMeth, use: 'E', s: "property", kids: "E+", form: "$h0.$s($a1)"},
		{kind: api.EBuilt, use: 'E', ops: 7, kids: "b", form: "$i($a0)"},
		{kind: api.SLet, use: 'S', s: "name", kids: "E", form: "let $s = $p0;"},
		{kind: api.SAssign, use: 'S', s: "name", kids: "E", form: "$s = $p0;"},
		{kind: api.SSet, use: 'S', s: "property", kids: "EE", form: "$h0.$s = $p1;"},
		{kind: api.SSetIx, use: 'S', kids: "EEE", form: "$h0[$p1] = $p2;"},
		{kind: api.SDel, use: 'S', s: "property", kids: "E", form: "delete $h0.$s;"},
		{kind: api.SDelIx, use: 'S', kids: "EE", form: "delete $h0[$p1];"},
		{kind: api.SPrint, use: 'S', kids: "E", form: "print $p0;"},
		{kind: api.SReturn, use: 'S', kids: "E", form: "return $p0;"},
		{kind: api.SExpr, use: 'S', kids: "E", form: "$p0;"},
		{kind: api.SIf, use: 'S', kids: "EBB", form: "if ($p0) $p1$e2"},
		{kind: api.SWhile, use: 'S', kids: "EB", form: "while ($p0) $p1"},
		{kind: api.SBlock, use: 'B', kids: "*", form: "$k"},
	}
}

// The words of the chapter, by numbers from 1 on (0 is nothing).
const (
	allKeys  = "count delete else false fn has if key len let null print proto return setproto str this true while"
	allSigns = "? + - * / % < <= > >= == !="
	allBuilt = "? count key has proto setproto len str"
)

// model is the chapter, by its table.
type model map[int]line

func newModel() model {
	m := model{}
	for _, l := range lines() {
		m[l.kind] = l
	}
	return m
}

// pattern is what a node's Kids must be, a letter each.
func (m model) pattern(n api.Node) string {
	switch kids := m[n.Kind].kids; kids {
	case "*":
		return strings.Repeat("S", min(len(n.Kids), 40))
	case "o":
		return strings.Repeat("E", min(len(n.Names), 40))
	case "E+":
		return strings.Repeat("E", max(1, min(len(n.Kids), 7)))
	case "b":
		return strings.Repeat("E", m.parts(n.Op))
	default:
		return kids
	}
}

// parts is how many a built-in call has.
func (m model) parts(op int) int {
	return [...]int{0, 1, 2, 2, 1, 2, 1, 1}[op]
}

// may asks whether a text is one of a sort.
func may(sort, s string) bool {
	switch sort {
	case "name":
		return text.IsName(s) && !slices.Contains(strings.Fields(allKeys), s)
	case "property":
		return text.IsName(s)
	case "string":
		return len(s) <= 256
	}
	return s == ""
}

// right asks whether a node may be used so.
func (m model) right(n api.Node, use byte) bool {
	l, ok := m[n.Kind]
	if !ok || l.use != use || !may(l.s, n.S) {
		return false
	}
	if n.Op < min(1, l.ops) || n.Op > l.ops || n.N < 0 || n.N > l.mostN {
		return false
	}
	most := map[string]int{"": 0, "name": 6, "property": 40}[l.names]
	if len(n.Names) > most || slices.ContainsFunc(n.Names, func(s string) bool { return !may(l.names, s) }) {
		return false
	}
	p := m.pattern(n)
	if len(n.Kids) != len(p) {
		return false
	}
	for i, k := range n.Kids {
		if !m.right(k, p[i]) {
			return false
		}
	}
	return true
}

func (m model) check(n api.Node) api.Errno {
	if m.height(n) > 12 {
		return api.ErrDeep
	}
	if !m.right(n, 'B') {
		return api.ErrArg
	}
	return api.OK
}

// height goes through a tree row by row.
func (m model) height(n api.Node) int {
	h := 0
	for row := []api.Node{n}; len(row) > 0; h++ {
		var next []api.Node
		for _, k := range row {
			next = append(next, k.Kids...)
		}
		row = next
	}
	return h
}

func (m model) rank(n api.Node) int {
	switch n.Kind {
	case api.EOr:
		return 1
	case api.EAnd:
		return 2
	case api.EBin:
		return [...]int{0, 5, 5, 6, 6, 6, 4, 4, 4, 4, 3, 3}[n.Op]
	case api.EUn:
		return 7
	case api.EGet, api.EIndex, api.ECall, api.EMeth:
		return 8
	}
	return 9
}

// part is a Kid, as the letter of a form asks for it.
func (m model) part(n api.Node, letter byte, i int) string {
	k := n.Kids[i]
	s, mine, its := m.written(k), m.rank(n), m.rank(k)
	if letter == 'l' && its < mine || letter == 'r' && its <= mine || letter == 'u' && its < 7 ||
		(letter == 'h' || letter == 'c') && its < 8 || letter == 'c' && k.Kind == api.EGet {
		return "(" + s + ")"
	}
	return s
}

// written is a right node as its form says: $ and a letter stand for a part; some letters have a Kid's number behind them.
func (m model) written(n api.Node) string {
	form := m[n.Kind].form
	out := ""
	for i := 0; i < len(form); i++ {
		if form[i] != '$' {
			out += form[i : i+1]
			continue
		}
		i++
		switch c := form[i]; c {
		case 'a', 'e', 'p', 'l', 'r', 'u', 'h', 'c':
			i++
			out += m.kid(n, c, int(form[i]-'0'))
		default:
			out += m.own(n, c)
		}
	}
	return out
}

// kid is what a letter with a Kid's number stands for.
func (m model) kid(n api.Node, c byte, i int) string {
	switch c {
	case 'a':
		var l []string
		for _, k := range n.Kids[i:] {
			l = append(l, m.written(k))
		}
		return strings.Join(l, ", ")
	case 'e':
		if len(n.Kids[i].Kids) == 0 {
			return ""
		}
		return " else " + m.written(n.Kids[i])
	}
	return m.part(n, c, i)
}

// own is what another letter stands for.
func (m model) own(n api.Node, c byte) string {
	switch c {
	case 't':
		return [...]string{"false", "true"}[n.N]
	case 'd':
		return strconv.Itoa(n.N)
	case 'q':
		return text.Quote(n.S)
	case 's':
		return n.S
	case 'n':
		return strings.Join(n.Names, ", ")
	case 'm':
		return [...]string{"?", "-", "!"}[n.Op]
	case 'o':
		return strings.Fields(allSigns)[n.Op]
	case 'i':
		return strings.Fields(allBuilt)[n.Op]
	}
	var l []string
	for i, k := range n.Kids {
		if c == 'f' {
			l = append(l, n.Names[i]+": "+m.written(k))
		} else {
			l = append(l, m.written(k))
		}
	}
	if c == 'f' {
		return strings.Join(l, ", ")
	}
	if len(l) == 0 {
		return "{}"
	}
	return "{ " + strings.Join(l, " ") + " }"
}

func (m model) print(n api.Node) (string, api.Errno) {
	if e := m.check(n); e != api.OK {
		return "", e
	}
	s := m.written(n)
	s = strings.TrimSuffix(strings.TrimPrefix(s[1:len(s)-1], " "), " ")
	if len(s) > 2000 {
		return "", api.ErrLong
	}
	return s, api.OK
}

// dice is a row of numbers that looks like chance, and is the same each time.
type dice uint64

func (d *dice) upTo(n int) int {
	*d = *d*6364136223846793005 + 1442695040888963407
	return int(uint64(*d) >> 33 % uint64(n))
}

// some is a text of a sort.
func (d *dice) some(sort string) string {
	switch sort {
	case "name":
		return [...]string{"a", "b", "f1", "_", "abcdefghijkl", "Let"}[d.upTo(6)]
	case "property":
		return [...]string{"x", "y", "if", "key", "_9", "abcdefghijkl"}[d.upTo(6)]
	case "string":
		return [...]string{"", "a", `"\`, "\n\xff", strings.Repeat("s", 256), "x y"}[d.upTo(6)]
	}
	return ""
}

// grow makes a right node of that use, of at most that height; a statement has at least 2.
func (m model) grow(d *dice, use byte, height int) api.Node {
	var fits []line
	for _, l := range lines() {
		if l.use == use && (height > 1 || l.kids == "" || l.kids == "*" || l.kids == "o") {
			fits = append(fits, l)
		}
	}
	l := fits[d.upTo(len(fits))]
	n := api.Node{Kind: l.kind, S: d.some(l.s), At: d.upTo(3) - 1}
	if l.ops > 0 {
		n.Op = 1 + d.upTo(l.ops)
	}
	if l.mostN > 0 {
		n.N = [...]int{0, 1, min(42, l.mostN), l.mostN}[d.upTo(4)]
	}
	for _, use := range []byte(m.plan(d, &n, height)) {
		n.Kids = append(n.Kids, m.grow(d, use, height-1))
	}
	return n
}

// plan is what the Kids of a node will be, a letter each; it gives it its Names.
func (m model) plan(d *dice, n *api.Node, height int) string {
	l := m[n.Kind]
	most := map[string]int{"": 0, "name": 6, "property": 3}[l.names]
	if l.kids == "o" && height < 2 {
		most = 0
	}
	for range d.upTo(most + 1) {
		n.Names = append(n.Names, d.some(l.names))
	}
	switch {
	case l.kids == "*" && height > 2:
		return strings.Repeat("S", d.upTo(4))
	case l.kids == "E+":
		return strings.Repeat("E", 1+d.upTo(4))
	}
	return m.pattern(*n)
}
