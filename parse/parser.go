package parse

import (
	"proteus/api"
	"proteus/lex"
)

// parser goes through tokens from the left on. A token is taken only where it can stand: so where it gives up, it is at the first one that can't.
type parser struct {
	tokens []lex.Token // the last one is an End, which is never taken
	next   int
}

// here is the token that comes.
func (p *parser) here() lex.Token { return p.tokens[p.next] }

// giveUp ends all at the token that comes; whole catches it.
func (p *parser) giveUp() { panic(api.ErrSay) }

// is asks whether a key or a sign comes. A Quoted of the same bytes is none.
func (p *parser) is(word string) bool {
	t := p.here()
	return (t.Kind == lex.Key || t.Kind == lex.Sign) && t.Text == word
}

// take takes a key or a sign, if it comes.
func (p *parser) take(word string) bool {
	if !p.is(word) {
		return false
	}
	p.next++
	return true
}

// takeOne takes the first of those that comes, and tells which, or nothing.
func (p *parser) takeOne(words ...string) string {
	for _, w := range words {
		if p.take(w) {
			return w
		}
	}
	return ""
}

// must takes a key or a sign that has to come.
func (p *parser) must(word string) {
	if !p.take(word) {
		p.giveUp()
	}
}

// text takes a token of one of these kinds, and tells its Text.
func (p *parser) text(kinds ...int) string {
	t := p.here()
	for _, k := range kinds {
		if t.Kind == k {
			p.next++
			return t.Text
		}
	}
	p.giveUp()
	return ""
}

// name takes a NAME.
func (p *parser) name() string { return p.text(lex.Name) }

// prop takes a PROP.
func (p *parser) prop() string { return p.text(lex.Name, lex.Key) }

// inBrackets asks whether the name, get or index that was read last stood in round brackets: without them its last token is a NAME, a PROP or a "]".
func (p *parser) inBrackets() bool { return p.tokens[p.next-1].Text == ")" }

// list reads up to most parts with commas between them, and the sign that ends them.
func (p *parser) list(most int, end string, part func()) {
	if p.take(end) {
		return
	}
	part()
	for n := 1; n < most && p.take(","); n++ {
		part()
	}
	p.must(end)
}
