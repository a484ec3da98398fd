package parse_test

import (
	"slices"
	"strings"
	"testing"

	"proteus/api"
	"proteus/num"
	"proteus/parse"
	"proteus/text"
	"proteus/tree"
)

// dice is a row of numbers that looks like chance, and is the same each time.
type dice uint64

func (d *dice) upTo(n int) int {
	*d = *d*6364136223846793005 + 1442695040888963407
	return int(uint64(*d) >> 33 % uint64(n))
}

func (d *dice) some(l ...string) string { return l[d.upTo(len(l))] }

// grower makes trees and writes them at once, so that it knows each place; with brackets and blanks that need not be.
type grower struct {
	strings.Builder
	*dice
}

// grown is a program of some height, mostly at most that, and a text of it.
func grown(d *dice, room int) (api.Node, string) {
	g := &grower{dice: d}
	n := api.Node{Kind: api.SBlock}
	for range d.upTo(6) {
		n.Kids = append(n.Kids, g.stmt(room))
	}
	return n, g.String()
}

// token writes one, and tells its place.
func (g *grower) token(s string) int {
	if !strings.Contains("(){}[],;", s) || g.upTo(2) == 0 {
		g.WriteString(g.some(" ", " ", " ", " ", "\n", "\t", "  \n", " // a; \"@\n"))
	}
	g.WriteString(s)
	return g.Len() - len(s)
}

func (g *grower) tokens(l ...string) {
	for _, s := range l {
		g.token(s)
	}
}

func (g *grower) name() string { return g.some("a", "b", "f1", "_", "abcdefghijkl", "Let") }
func (g *grower) prop() string { return g.some("x", "y", "if", "key", "_9", "fn", "abcdefghijkl") }

// list writes some parts, with commas between them.
func (g *grower) list(most int, part func()) {
	for i := range g.upTo(g.upTo(most+1) + 1) {
		if i > 0 {
			g.token(",")
		}
		part()
	}
}

func (g *grower) block(room int) api.Node {
	n := api.Node{Kind: api.SBlock}
	g.token("{")
	for range g.upTo(3) * min(1, max(0, room)) {
		n.Kids = append(n.Kids, g.stmt(room-1))
	}
	g.token("}")
	return n
}

func (g *grower) stmt(room int) api.Node {
	n := api.Node{Kind: []int{
		api.SLet, api.SAssign, api.SSet, api.SSetIx, api.SDel, api.SDelIx, api.SPrint, api.SReturn, api.SExpr, api.SIf, api.SWhile,
	}[g.upTo(11)]}
	add := func(least int) { n.Kids = append(n.Kids, g.expr(room-1, least)) }
	switch n.Kind {
	case api.SIf, api.SWhile:
		g.tokens([]string{"if", "while"}[(n.Kind-api.SIf)/2], "(")
		add(1)
		g.token(")")
		n.Kids = append(n.Kids, g.block(room-1))
		if n.Kind == api.SIf {
			n.Kids = append(n.Kids, g.otherwise(room-1))
		}
		return n
	case api.SLet, api.SAssign:
		n.S = g.name()
		if n.Kind == api.SLet {
			g.token("let")
		}
		n.At = g.token(n.S)
	case api.SSet, api.SDel:
		n.S = g.prop()
		if n.Kind == api.SDel {
			g.token("delete")
		}
		add(8)
		g.tokens(".", n.S)
	case api.SSetIx, api.SDelIx:
		if n.Kind == api.SDelIx {
			g.token("delete")
		}
		add(8)
		g.token("[")
		add(1)
		g.token("]")
	case api.SPrint, api.SReturn:
		g.token(map[int]string{api.SPrint: "print", api.SReturn: "return"}[n.Kind])
		add(1)
	case api.SExpr:
		add(1)
	}
	if n.Kind <= api.SSetIx {
		g.token("=")
		add(1)
	}
	g.token(";")
	return n
}

// otherwise writes an else, or leaves it out.
func (g *grower) otherwise(room int) api.Node {
	if g.upTo(2) == 0 {
		return api.Node{Kind: api.SBlock}
	}
	g.token("else")
	return g.block(room)
}

// ranks are those of signs between two, as the chapters have them.
func ranks() map[string]int {
	return map[string]int{"||": 1, "&&": 2, "==": 3, "!=": 3, "<": 4, "<=": 4, ">": 4, ">=": 4, "+": 5, "-": 5, "*": 6, "/": 6, "%": 6}
}

// signs are all signs between two; those behind the first two are by their numbers.
func signs() []string { return strings.Fields("|| && + - * / % < <= > >= == !=") }

// joined is a node of a sign between two, without them.
func joined(sign string) api.Node {
	switch i := slices.Index(signs(), sign); i {
	case 0:
		return api.Node{Kind: api.EOr}
	case 1:
		return api.Node{Kind: api.EAnd}
	default:
		return api.Node{Kind: api.EBin, Op: i - 1}
	}
}

// expr writes an expression of at least that rank, or one in brackets.
func (g *grower) expr(room, least int) api.Node {
	kinds := []int{api.ENull, api.EThis, api.EBool, api.EInt, api.EStr, api.EName, api.EName}
	if room > 1 {
		kinds = append(kinds, api.EObj, api.EFn, api.EUn, api.EBin, api.EBin, api.EBin, api.EGet, api.EGet, api.EIndex, api.ECall, api.EMeth, api.EBuilt)
	}
	kind, rank, sign := kinds[g.upTo(len(kinds))], 9, ""
	switch kind {
	case api.EBin:
		sign = g.some(signs()...)
		rank = ranks()[sign]
	case api.EUn:
		rank = 7
	case api.EGet, api.EIndex, api.ECall, api.EMeth:
		rank = 8
	}
	brackets := g.upTo(g.upTo(3) + 1)
	if rank < least && brackets == 0 {
		brackets = 1
	}
	g.tokens(slices.Repeat([]string{"("}, brackets)...)
	n := g.bare(kind, sign, rank, room)
	g.tokens(slices.Repeat([]string{")"}, brackets)...)
	return n
}

// bare writes an expression of that kind without brackets around it.
func (g *grower) bare(kind int, sign string, rank, room int) api.Node {
	n := api.Node{Kind: kind}
	switch kind {
	case api.EUn:
		n.Op = 1 + g.upTo(2)
		g.token([]string{"", "-", "!"}[n.Op])
		n.Kids = []api.Node{g.expr(room-1, 7)}
	case api.EBin:
		n = joined(sign)
		n.Kids = append(n.Kids, g.expr(room-1, rank))
		g.token(sign)
		n.Kids = append(n.Kids, g.expr(room-1, rank+1))
	case api.EGet, api.EIndex, api.ECall, api.EMeth:
		return g.post(kind, room)
	case api.EObj:
		g.token("{")
		g.list(3, func() {
			n.Names = append(n.Names, g.prop())
			g.tokens(n.Names[len(n.Names)-1], ":")
			n.Kids = append(n.Kids, g.expr(room-1, 1))
		})
		g.token("}")
	case api.EFn:
		n.At = g.token("fn")
		g.token("(")
		g.list(6, func() {
			n.Names = append(n.Names, g.name())
			g.token(n.Names[len(n.Names)-1])
		})
		g.token(")")
		n.Kids = g.block(room).Kids
	case api.EBuilt:
		n.Op = 1 + g.upTo(7)
		g.tokens(strings.Fields("? count key has proto setproto len str")[n.Op], "(")
		n.Kids = append(n.Kids, g.expr(room-1, 1))
		if n.Op == api.BKey || n.Op == api.BHas || n.Op == api.BSetProto {
			g.token(",")
			n.Kids = append(n.Kids, g.expr(room-1, 1))
		}
		g.token(")")
	default:
		g.word(&n)
	}
	return n
}

// post writes a get, an index, or a call.
func (g *grower) post(kind, room int) api.Node {
	n := api.Node{Kind: kind}
	n.Kids = append(n.Kids, g.expr(room-1, 8))
	if kind == api.ECall && n.Kids[0].Kind == api.EGet && !strings.HasSuffix(g.String(), ")") {
		// A get without brackets, and a call straight behind it: that is a method's call.
		n = api.Node{Kind: api.EMeth, S: n.Kids[0].S, Kids: n.Kids[0].Kids}
	}
	switch kind {
	case api.EGet, api.EMeth:
		n.S = g.prop()
		g.tokens(".", n.S)
	case api.EIndex:
		g.token("[")
		n.Kids = append(n.Kids, g.expr(room-1, 1))
		g.token("]")
	}
	if kind == api.ECall || kind == api.EMeth {
		g.token("(")
		g.list(6, func() { n.Kids = append(n.Kids, g.expr(room-1, 1)) })
		g.token(")")
	}
	return n
}

// word writes an expression of one token.
func (g *grower) word(n *api.Node) {
	switch n.Kind {
	case api.ENull:
		g.token("null")
	case api.EThis:
		g.token("this")
	case api.EBool:
		n.N = g.upTo(2)
		g.token([]string{"false", "true"}[n.N])
	case api.EInt:
		n.N = []int{0, 1, 42, num.Most}[g.upTo(4)]
		g.token(g.some("", "00") + num.Digits(n.N))
	case api.EStr:
		n.S = g.some("", "a", ")", "let", `"\`, "\n\xff", "// a")
		g.token(text.Quote(n.S))
	case api.EName:
		n.S = g.name()
		n.At = g.token(n.S)
	}
}

// P7.1, P7.2: texts of trees that are known, with brackets, blanks and remarks that need not be; and these trees printed and read.
func TestMixedTexts(t *testing.T) {
	d := dice(1)
	seen := map[api.Errno]int{}
	for range 20000 {
		want, s := grown(&d, 2+d.upTo(11))
		got, at, e := parse.Parse(s)
		seen[e]++
		switch h := tree.Height(want); {
		case e == api.ErrLong || e == api.ErrFull:
			continue
		case h > 12 && (e != api.ErrDeep || at != 0):
			t.Fatalf("Parse(%q) is %v, %d, %v; its height is %d", s, got, at, e, h)
		case h > 12:
			isNothing(t, s, got)
			continue
		case e != api.OK || at != 0 || !alike(got, want):
			t.Fatalf("Parse(%q) is %v, %d, %v; not %v", s, got, at, e, want)
		}
		if c := tree.Check(got); c != api.OK {
			t.Fatalf("Check of Parse(%q) is %v", s, c)
		}
		readsAgain(t, want)
	}
	if seen[api.OK] < 5000 || seen[api.ErrDeep] < 100 || seen[api.ErrLong]+seen[api.ErrFull] < 100 {
		t.Errorf("the texts are of one sort: %v", seen)
	}
}
