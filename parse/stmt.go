package parse

import (
	"proteus/api"
	"proteus/lex"
)

// program reads all statements of a text.
func (p *parser) program() api.Node {
	return api.Node{Kind: api.SBlock, Kids: p.stmts()}
}

// block reads statements in braces.
func (p *parser) block() api.Node {
	p.must("{")
	n := api.Node{Kind: api.SBlock, Kids: p.stmts()}
	p.must("}")
	return n
}

// stmts reads as many statements as there are, or may be; whoever called asks for what must stand behind them.
func (p *parser) stmts() []api.Node {
	var l []api.Node
	for len(l) < api.MaxKids && !p.is("}") && p.here().Kind != lex.End {
		l = append(l, p.stmt())
	}
	return l
}

func (p *parser) stmt() api.Node {
	switch {
	case p.take("if"):
		return p.branch()
	case p.take("while"):
		return api.Node{Kind: api.SWhile, Kids: []api.Node{p.asked(), p.block()}}
	}
	n := p.short()
	p.must(";")
	return n
}

// branch reads an if behind its key.
func (p *parser) branch() api.Node {
	kids := []api.Node{p.asked(), p.block(), {Kind: api.SBlock}}
	if p.take("else") {
		kids[2] = p.block()
	}
	return api.Node{Kind: api.SIf, Kids: kids}
}

// asked reads what an if or a while asks.
func (p *parser) asked() api.Node {
	p.must("(")
	n := p.or()
	p.must(")")
	return n
}

// short reads a statement without blocks, up to the semicolon.
func (p *parser) short() api.Node {
	switch {
	case p.take("let"):
		return p.let()
	case p.take("print"):
		return api.Node{Kind: api.SPrint, Kids: []api.Node{p.or()}}
	case p.take("return"):
		return api.Node{Kind: api.SReturn, Kids: []api.Node{p.or()}}
	case p.take("delete"):
		return p.remove()
	}
	n := p.or()
	if p.canBecome(n) && p.take("=") {
		return become(n, p.or())
	}
	return api.Node{Kind: api.SExpr, Kids: []api.Node{n}}
}

// let reads a let behind its key.
func (p *parser) let() api.Node {
	at := p.here().At
	name := p.name()
	p.must("=")
	return api.Node{Kind: api.SLet, S: name, Kids: []api.Node{p.or()}, At: at}
}

// remove reads a delete behind its key.
func (p *parser) remove() api.Node {
	n := p.post()
	if !p.isPlace(n) {
		p.giveUp()
	}
	if n.Kind == api.EGet {
		return api.Node{Kind: api.SDel, S: n.S, Kids: n.Kids}
	}
	return api.Node{Kind: api.SDelIx, Kids: n.Kids}
}

// isPlace asks whether the expression that was read last is a place.
func (p *parser) isPlace(n api.Node) bool {
	return (n.Kind == api.EGet || n.Kind == api.EIndex) && !p.inBrackets()
}

// canBecome asks whether a "=" can stand behind the expression that was read last.
func (p *parser) canBecome(n api.Node) bool {
	return p.isPlace(n) || n.Kind == api.EName && !p.inBrackets()
}

// become is the statement by which a name or a place becomes a value.
func become(n, v api.Node) api.Node {
	kids := append(n.Kids, v)
	switch n.Kind {
	case api.EGet:
		return api.Node{Kind: api.SSet, S: n.S, Kids: kids}
	case api.EIndex:
		return api.Node{Kind: api.SSetIx, Kids: kids}
	}
	return api.Node{Kind: api.SAssign, S: n.S, Kids: kids, At: n.At}
}
