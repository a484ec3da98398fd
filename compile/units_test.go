package compile_test

import (
	"slices"
	"strconv"
	"strings"
	"testing"

	"proteus/api"
	"proteus/code"
	"proteus/compile"
	"proteus/parse"
	"proteus/scope"
)

// Limits and bounds as the document says them, by their numbers.
const (
	maxNest   = 12
	maxKids   = 40
	maxStr    = 256
	maxParams = 6
	maxVars   = 24
	maxFns    = 32
	maxPool   = 120
	maxIns    = 4000
	maxStack  = 64
	most      = 1<<62 - 1
)

// node is one of a kind with these Kids.
func node(kind int, kids ...api.Node) api.Node { return api.Node{Kind: kind, Kids: kids} }

// signed is one with a sign, or a built-in call.
func signed(kind, op int, kids ...api.Node) api.Node {
	return api.Node{Kind: kind, Op: op, Kids: kids}
}

// named is one of a property, or a string.
func named(kind int, s string, kids ...api.Node) api.Node {
	return api.Node{Kind: kind, S: s, Kids: kids}
}

// numbered is one of a number.
func numbered(kind, n int, kids ...api.Node) api.Node {
	return api.Node{Kind: kind, N: n, Kids: kids}
}

// object is one that is written, with these names.
func object(names string, kids ...api.Node) api.Node {
	return api.Node{Kind: api.EObj, Names: strings.Fields(names), Kids: kids}
}

func null() api.Node                { return node(api.ENull) }
func whole(n int) api.Node          { return numbered(api.EInt, n) }
func quoted(s string) api.Node      { return named(api.EStr, s) }
func local(n int) api.Node          { return numbered(api.ELocal, n) }
func global(n int) api.Node         { return numbered(api.EGlobal, n) }
func expr(n api.Node) api.Node      { return node(api.SExpr, n) }
func answer(n api.Node) api.Node    { return node(api.SReturn, n) }
func block(l ...api.Node) api.Node  { return node(api.SBlock, l...) }
func body(l ...api.Node) []api.Node { return l }

// program is a unit of a function 0 and others.
func program(globals int, first []api.Node, others ...api.Fn) api.Unit {
	return api.Unit{Globals: globals, Fns: append([]api.Fn{{Body: first}}, others...)}
}

// load is the unit of a text.
func load(t *testing.T, src string) api.Unit {
	t.Helper()
	n, at, e := parse.Parse(src)
	if e != api.OK {
		t.Fatalf("%s is no program: %v at %d", src, e, at)
	}
	u, at, e := scope.Resolve(n)
	if e != api.OK {
		t.Fatalf("%s can't be resolved: %v at %d", src, e, at)
	}
	return u
}

// words are the instructions' names, Tick being the first one.
func words() []string {
	return strings.Fields("Tick PushNull PushBool PushInt PushStr PushThis PushFun GetLocal SetLocal GetGlobal SetGlobal NewObj Init Get Set GetIx SetIx Del DelIx Un Bin Jump JumpNot KeepAnd KeepOr Call Meth CallM Built Print Pop Ret")
}

// wordOf is an instruction's name.
func wordOf(op int) string {
	if op < 1 || op > len(words()) {
		return "no instruction"
	}
	return words()[op-1]
}

// told is instructions in one line: a Tick 1 as a dot, others by their names, with A and B where these say something.
func told(list []api.Instr) string {
	var out []string
	for _, in := range list {
		s := wordOf(in.Op)
		switch s {
		case "PushBool", "PushInt", "PushFun", "GetLocal", "SetLocal", "GetGlobal", "SetGlobal", "Un", "Bin", "Jump", "JumpNot", "KeepAnd", "KeepOr", "Call", "CallM", "Built", "PushStr", "Del":
			s += " " + strconv.Itoa(in.A)
			if in.B != 0 {
				s += " and " + strconv.Itoa(in.B)
			}
		case "Init", "Get", "Set", "Meth":
			s += " " + strconv.Itoa(in.A) + " " + strconv.Itoa(in.B)
		default:
			if s == "Tick" && in.A == 1 && in.B == 0 {
				s = "."
			} else if in.A != 0 || in.B != 0 {
				s += " of " + strconv.Itoa(in.A) + " and " + strconv.Itoa(in.B)
			}
		}
		out = append(out, s)
	}
	return strings.Join(out, ", ")
}

// toldCode is a code, without its parameters and locals: its sites, its depth, its instructions.
func toldCode(c api.Code) string {
	return strconv.Itoa(c.Sites) + " " + strconv.Itoa(c.Deep) + ": " + told(c.Ins)
}

// spare is a unit anew, with room behind each list, and something in it.
func spare(u api.Unit) api.Unit {
	fns := make([]api.Fn, 0, len(u.Fns)+1)
	for _, f := range u.Fns {
		f.Body = spareNodes(f.Body)
		fns = append(fns, f)
	}
	u.Fns = append(fns, api.Fn{Params: -9})[:len(fns)]
	return u
}

func spareNodes(l []api.Node) []api.Node {
	out := make([]api.Node, 0, len(l)+1)
	for _, n := range l {
		n.Kids = spareNodes(n.Kids)
		n.Names = append(append(make([]string, 0, len(n.Names)+1), n.Names...), "room")[:len(n.Names)]
		out = append(out, n)
	}
	return append(out, api.Node{Kind: -9})[:len(out)]
}

// alike asks whether two of those are alike, with what is in the room behind the lists.
func alike(a, b api.Unit) bool {
	same := func(f, g api.Fn) bool {
		return f.Params == g.Params && f.Locals == g.Locals && alikeNodes(f.Body, g.Body)
	}
	return a.Globals == b.Globals && slices.EqualFunc(a.Fns, b.Fns, same) && a.Fns[:len(a.Fns)+1][len(a.Fns)].Params == -9
}

func alikeNodes(a, b []api.Node) bool {
	same := func(m, n api.Node) bool {
		names := slices.Equal(m.Names[:len(m.Names)+1], n.Names[:len(n.Names)+1])
		return m.Kind == n.Kind && m.Op == n.Op && m.N == n.N && m.S == n.S && m.At == n.At && names && alikeNodes(m.Kids, n.Kids)
	}
	return slices.EqualFunc(a, b, same) && a[:len(a)+1][len(a)].Kind == -9
}

// spoil changes all that is in a program, and in the room behind its lists.
func spoil(p api.Program) {
	for f := range p.Codes {
		l := p.Codes[f].Ins
		for at := range l[:cap(l)] {
			l[:cap(l)][at] = api.Instr{Op: -9}
		}
	}
	for i := range p.Codes[:cap(p.Codes)] {
		p.Codes[:cap(p.Codes)][i].Ins = nil
	}
	for i := range p.Pool[:cap(p.Pool)] {
		p.Pool[:cap(p.Pool)][i] = "spoilt"
	}
}

// isZero asks whether a program is the zero value.
func isZero(p api.Program) bool { return p.Globals == 0 && len(p.Pool) == 0 && len(p.Codes) == 0 }

// compiled compiles a unit three times, and asks that all come to the same, that the unit stays as it is, and that no answer has anything in common with another one.
func compiled(t *testing.T, u api.Unit) (api.Program, api.Errno) {
	t.Helper()
	mine, before := spare(u), spare(u)
	p, e := compile.Unit(mine)
	q, f := compile.Unit(u)
	if e != f || !code.Same(p, q) {
		t.Fatalf("one unit comes to %v, %v and to %v, %v", p, e, q, f)
	}
	spoil(q)
	if q, f = compile.Unit(mine); e != f || !code.Same(p, q) {
		t.Fatalf("one unit comes to %v, %v and then to %v, %v", p, e, q, f)
	}
	if !alike(mine, before) {
		t.Fatal("the unit has changed")
	}
	if e != api.OK && !isZero(p) {
		t.Fatalf("beside %v stands %v", e, p)
	}
	return p, e
}

// count is how many nodes there are.
func count(l []api.Node) int {
	n := len(l)
	for _, k := range l {
		n += count(k.Kids)
	}
	return n
}

// right is what comes of a unit that may be; P15.3 is asked of it, and all that stands in the fields beside instructions.
func right(t *testing.T, u api.Unit) api.Program {
	t.Helper()
	p, e := compiled(t, u)
	if e != api.OK {
		t.Fatalf("%v comes to %v", u, e)
	}
	if c := code.Check(p); c != api.OK {
		t.Fatalf("what comes of %v is no program: %v: %v", u, p, c)
	}
	nodes := 0
	for _, f := range u.Fns {
		nodes += count(f.Body)
	}
	if n := compile.Ticks(p); n != nodes {
		t.Fatalf("%v has %d nodes, and %v %d Ticks", u, nodes, p, n)
	}
	if p.Globals != u.Globals || len(p.Codes) != len(u.Fns) {
		t.Fatalf("%v comes to %d globals and %d codes", u, p.Globals, len(p.Codes))
	}
	for i, f := range u.Fns {
		if c := p.Codes[i]; c.Params != f.Params || c.Locals != f.Locals {
			t.Fatalf("function %d of %v has %d parameters and %d locals", i, u, c.Params, c.Locals)
		}
	}
	return p
}

// wrong fails the test unless that is what a unit comes to.
func wrong(t *testing.T, what string, u api.Unit, want api.Errno) {
	t.Helper()
	if p, e := compiled(t, u); e != want || !isZero(p) {
		t.Errorf("%s comes to %v, not to %v", what, e, want)
	}
}
