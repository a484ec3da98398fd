package parse

import (
	"proteus/api"
	"proteus/lex"
	"proteus/tree"
)

func (p *parser) or() api.Node   { return p.between(p.and, "||") }
func (p *parser) and() api.Node  { return p.between(p.eq, "&&") }
func (p *parser) eq() api.Node   { return p.between(p.cmp, "==", "!=") }
func (p *parser) cmp() api.Node  { return p.between(p.sum, "<", "<=", ">", ">=") }
func (p *parser) sum() api.Node  { return p.between(p.prod, "+", "-") }
func (p *parser) prod() api.Node { return p.between(p.un, "*", "/", "%") }

// between reads parts with signs of one rank between them, from the left on.
func (p *parser) between(part func() api.Node, signs ...string) api.Node {
	n := part()
	for sign := p.takeOne(signs...); sign != ""; sign = p.takeOne(signs...) {
		n = join(n, sign, part())
	}
	return n
}

// join is two with a sign between them.
func join(a api.Node, sign string, b api.Node) api.Node {
	n := api.Node{Kind: api.EBin, Kids: []api.Node{a, b}}
	switch sign {
	case "||":
		n.Kind = api.EOr
	case "&&":
		n.Kind = api.EAnd
	default:
		n.Op = signNumber(sign)
	}
	return n
}

// signNumber is the number of a sign between two.
func signNumber(sign string) int {
	op := api.Add
	for op < api.Ne && tree.Sign(op) != sign {
		op++
	}
	return op
}

func (p *parser) un() api.Node {
	switch {
	case p.take("-"):
		return api.Node{Kind: api.EUn, Op: api.Neg, Kids: []api.Node{p.un()}}
	case p.take("!"):
		return api.Node{Kind: api.EUn, Op: api.Not, Kids: []api.Node{p.un()}}
	}
	return p.post()
}

func (p *parser) post() api.Node {
	n := p.atom()
	for {
		switch p.takeOne(".", "[", "(") {
		case ".":
			n = p.property(n)
		case "[":
			n = api.Node{Kind: api.EIndex, Kids: []api.Node{n, p.or()}}
			p.must("]")
		case "(":
			n = api.Node{Kind: api.ECall, Kids: p.call(n)}
		default:
			return n
		}
	}
}

// property reads a get, or a method's call, behind the dot.
func (p *parser) property(of api.Node) api.Node {
	s := p.prop()
	if p.take("(") {
		return api.Node{Kind: api.EMeth, S: s, Kids: p.call(of)}
	}
	return api.Node{Kind: api.EGet, S: s, Kids: []api.Node{of}}
}

// call reads arguments behind their opening bracket, and tells what is called, and these.
func (p *parser) call(of api.Node) []api.Node {
	kids := []api.Node{of}
	p.list(api.MaxParams, ")", func() { kids = append(kids, p.or()) })
	return kids
}

func (p *parser) atom() api.Node {
	t := p.here()
	switch t.Kind {
	case lex.Number:
		p.next++
		return api.Node{Kind: api.EInt, N: t.N}
	case lex.Quoted:
		p.next++
		return api.Node{Kind: api.EStr, S: t.Text}
	case lex.Name:
		p.next++
		return api.Node{Kind: api.EName, S: t.Text, At: t.At}
	}
	switch p.takeOne("(", "{", "fn", "null", "true", "false", "this") {
	case "(":
		n := p.or()
		p.must(")")
		return n
	case "{":
		return p.object()
	case "fn":
		return p.function(t.At)
	case "null":
		return api.Node{Kind: api.ENull}
	case "true":
		return api.Node{Kind: api.EBool, N: 1}
	case "false":
		return api.Node{Kind: api.EBool}
	case "this":
		return api.Node{Kind: api.EThis}
	}
	return p.built()
}

// object reads an object behind its opening brace.
func (p *parser) object() api.Node {
	n := api.Node{Kind: api.EObj}
	p.list(api.MaxKids, "}", func() {
		n.Names = append(n.Names, p.prop())
		p.must(":")
		n.Kids = append(n.Kids, p.or())
	})
	return n
}

// function reads a function behind its key, which is at that place.
func (p *parser) function(at int) api.Node {
	n := api.Node{Kind: api.EFn, At: at}
	p.must("(")
	p.list(api.MaxParams, ")", func() { n.Names = append(n.Names, p.name()) })
	n.Kids = p.block().Kids
	return n
}

// built reads a built-in call, the last that an atom can be.
func (p *parser) built() api.Node {
	for op := api.BCount; op <= api.BStr; op++ {
		if name, parts := tree.Built(op); p.take(name) {
			return api.Node{Kind: api.EBuilt, Op: op, Kids: p.parts(parts)}
		}
	}
	p.giveUp()
	return api.Node{}
}

// parts reads just so many expressions in round brackets, with commas between them.
func (p *parser) parts(many int) []api.Node {
	p.must("(")
	kids := []api.Node{p.or()}
	for len(kids) < many {
		p.must(",")
		kids = append(kids, p.or())
	}
	p.must(")")
	return kids
}
