package tree

import (
	"strings"

	"proteus/api"
	"proteus/num"
	"proteus/text"
)

// writer writes nodes that are right, one behind the other.
type writer struct {
	strings.Builder
}

// full asks whether there is more than a source may have. Then what is written does not matter any more, and the rest is left out.
func (w *writer) full() bool { return w.Len() > api.MaxSource }

// program writes statements with a blank between each two.
func (w *writer) program(l []api.Node) {
	for i, n := range l {
		if i > 0 {
			w.WriteByte(' ')
		}
		w.stmt(n)
	}
}

// block writes statements as a BLOCK.
func (w *writer) block(l []api.Node) {
	w.WriteByte('{')
	for _, n := range l {
		w.WriteByte(' ')
		w.stmt(n)
	}
	if len(l) > 0 {
		w.WriteByte(' ')
	}
	w.WriteByte('}')
}

func (w *writer) stmt(n api.Node) {
	if w.full() {
		return
	}
	switch n.Kind {
	case api.SIf:
		w.branch("if", n.Kids[0], n.Kids[1])
		if otherwise := n.Kids[2].Kids; len(otherwise) > 0 {
			w.WriteString(" else ")
			w.block(otherwise)
		}
	case api.SWhile:
		w.branch("while", n.Kids[0], n.Kids[1])
	default:
		w.short(n)
		w.WriteByte(';')
	}
}

// branch writes a key, what it asks, and what is done then.
func (w *writer) branch(key string, asked, done api.Node) {
	w.WriteString(key)
	w.WriteString(" (")
	w.expr(asked)
	w.WriteString(") ")
	w.block(done.Kids)
}

// short writes a statement without blocks, up to the semicolon.
func (w *writer) short(n api.Node) {
	k := n.Kids
	switch n.Kind {
	case api.SLet:
		w.WriteString("let ")
		w.WriteString(n.S)
		w.becomes(k[0])
	case api.SAssign:
		w.WriteString(n.S)
		w.becomes(k[0])
	case api.SSet:
		w.get(k[0], n.S)
		w.becomes(k[1])
	case api.SSetIx:
		w.index(k[0], k[1])
		w.becomes(k[2])
	case api.SDel:
		w.WriteString("delete ")
		w.get(k[0], n.S)
	case api.SDelIx:
		w.WriteString("delete ")
		w.index(k[0], k[1])
	case api.SPrint:
		w.WriteString("print ")
		w.expr(k[0])
	case api.SReturn:
		w.WriteString("return ")
		w.expr(k[0])
	case api.SExpr:
		w.expr(k[0])
	}
}

func (w *writer) becomes(n api.Node) {
	w.WriteString(" = ")
	w.expr(n)
}

func (w *writer) expr(n api.Node) {
	if w.full() {
		return
	}
	k := n.Kids
	switch n.Kind {
	case api.EObj:
		w.object(n)
	case api.EFn:
		w.WriteString("fn(")
		w.WriteString(strings.Join(n.Names, ", "))
		w.WriteString(") ")
		w.block(k)
	case api.EUn:
		w.unary(n)
	case api.EBin:
		w.between(n, Sign(n.Op))
	case api.EAnd:
		w.between(n, "&&")
	case api.EOr:
		w.between(n, "||")
	case api.EGet:
		w.get(k[0], n.S)
	case api.EIndex:
		w.index(k[0], k[1])
	case api.ECall:
		w.called(k[0])
		w.list(k[1:])
	case api.EMeth:
		w.get(k[0], n.S)
		w.list(k[1:])
	case api.EBuilt:
		name, _ := Built(n.Op)
		w.WriteString(name)
		w.list(k)
	default:
		w.WriteString(word(n))
	}
}

// word is an expression that is one token: an EName, if it is none of those that are told apart.
func word(n api.Node) string {
	switch n.Kind {
	case api.ENull:
		return "null"
	case api.EThis:
		return "this"
	case api.EBool:
		if n.N == 0 {
			return "false"
		}
		return "true"
	case api.EInt:
		return num.Digits(n.N)
	case api.EStr:
		return text.Quote(n.S)
	}
	return n.S
}

func (w *writer) object(n api.Node) {
	w.WriteByte('{')
	for i, k := range n.Kids {
		if i > 0 {
			w.WriteString(", ")
		}
		w.WriteString(n.Names[i])
		w.WriteString(": ")
		w.expr(k)
	}
	w.WriteByte('}')
}

func (w *writer) unary(n api.Node) {
	if n.Op == api.Neg {
		w.WriteByte('-')
	} else {
		w.WriteByte('!')
	}
	w.tight(n.Kids[0], rankUn)
}

// between writes two with a sign between them. The right one must be tighter than the sign, as signs of one rank are read from the left on.
func (w *writer) between(n api.Node, sign string) {
	rank := Rank(n)
	w.tight(n.Kids[0], rank)
	w.WriteByte(' ')
	w.WriteString(sign)
	w.WriteByte(' ')
	w.tight(n.Kids[1], rank+1)
}

// tight writes an expression, in round brackets if its rank is below least.
func (w *writer) tight(n api.Node, least int) {
	if Rank(n) >= least {
		w.expr(n)
		return
	}
	w.WriteByte('(')
	w.expr(n)
	w.WriteByte(')')
}

func (w *writer) get(of api.Node, property string) {
	w.tight(of, rankPost)
	w.WriteByte('.')
	w.WriteString(property)
}

func (w *writer) index(of, key api.Node) {
	w.tight(of, rankPost)
	w.WriteByte('[')
	w.expr(key)
	w.WriteByte(']')
}

// called writes what an ECall calls. A get needs brackets there: without them it would be read as an EMeth.
func (w *writer) called(n api.Node) {
	least := rankPost
	if n.Kind == api.EGet {
		least = rankAtom
	}
	w.tight(n, least)
}

// list writes expressions in round brackets, with commas between them.
func (w *writer) list(l []api.Node) {
	w.WriteByte('(')
	for i, n := range l {
		if i > 0 {
			w.WriteString(", ")
		}
		w.expr(n)
	}
	w.WriteByte(')')
}
