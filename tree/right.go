package tree

import (
	"slices"

	"proteus/api"
	"proteus/lex"
	"proteus/num"
	"proteus/text"
)

// isName asks whether a text may be a name; a property may be a key as well (text.IsName).
func isName(s string) bool { return text.IsName(s) && !lex.IsKey(s) }

// bare is a copy of a node with just the fields that its kind has: where it is not alike, the node has one too many.
func bare(n api.Node) api.Node {
	b := api.Node{Kind: n.Kind, Kids: n.Kids}
	switch n.Kind {
	case api.ENull, api.EThis:
		b.Kids = nil
	case api.EBool, api.EInt:
		b.N, b.Kids = n.N, nil
	case api.EStr, api.EName:
		b.S, b.Kids = n.S, nil
	case api.EGet, api.EMeth, api.SLet, api.SAssign, api.SSet, api.SDel:
		b.S = n.S
	case api.EObj, api.EFn:
		b.Names = n.Names
	case api.EUn, api.EBin, api.EBuilt:
		b.Op = n.Op
	}
	return b
}

// isExpr asks whether a node is right as an expression.
func isExpr(n api.Node) bool {
	if !alike(n, bare(n)) {
		return false
	}
	switch n.Kind {
	case api.ENull, api.EThis:
		return true
	case api.EBool:
		return n.N == 0 || n.N == 1
	case api.EInt:
		return n.N >= 0 && n.N <= num.Most
	case api.EStr:
		return len(n.S) <= api.MaxStr
	case api.EName:
		return isName(n.S)
	case api.EObj:
		return len(n.Names) == len(n.Kids) && all(n.Names, api.MaxKids, text.IsName) && all(n.Kids, api.MaxKids, isExpr)
	case api.EFn:
		return all(n.Names, api.MaxParams, isName) && areStmts(n.Kids)
	case api.EUn:
		return (n.Op == api.Neg || n.Op == api.Not) && areExprs(n.Kids, 1)
	case api.EBin:
		return Sign(n.Op) != "" && areExprs(n.Kids, 2)
	case api.EAnd, api.EOr, api.EIndex:
		return areExprs(n.Kids, 2)
	case api.EGet:
		return text.IsName(n.S) && areExprs(n.Kids, 1)
	case api.ECall:
		return isCall(n.Kids)
	case api.EMeth:
		return text.IsName(n.S) && isCall(n.Kids)
	case api.EBuilt:
		_, parts := Built(n.Op)
		return parts > 0 && areExprs(n.Kids, parts)
	}
	return false
}

// isStmt asks whether a node is right as a statement of a block; an SBlock is none, as it stands only where a BLOCK is asked for.
func isStmt(n api.Node) bool {
	if !alike(n, bare(n)) {
		return false
	}
	switch n.Kind {
	case api.SLet, api.SAssign:
		return isName(n.S) && areExprs(n.Kids, 1)
	case api.SSet:
		return text.IsName(n.S) && areExprs(n.Kids, 2)
	case api.SSetIx:
		return areExprs(n.Kids, 3)
	case api.SDel:
		return text.IsName(n.S) && areExprs(n.Kids, 1)
	case api.SDelIx:
		return areExprs(n.Kids, 2)
	case api.SPrint, api.SReturn, api.SExpr:
		return areExprs(n.Kids, 1)
	case api.SIf:
		return len(n.Kids) == 3 && isExpr(n.Kids[0]) && isBlock(n.Kids[1]) && isBlock(n.Kids[2])
	case api.SWhile:
		return len(n.Kids) == 2 && isExpr(n.Kids[0]) && isBlock(n.Kids[1])
	}
	return false
}

// isBlock asks whether a node is right as a block.
func isBlock(n api.Node) bool {
	return n.Kind == api.SBlock && alike(n, bare(n)) && areStmts(n.Kids)
}

// areStmts asks it of what a block or a function has.
func areStmts(l []api.Node) bool { return all(l, api.MaxKids, isStmt) }

// areExprs asks it of just as many expressions.
func areExprs(l []api.Node, parts int) bool { return len(l) == parts && all(l, parts, isExpr) }

// isCall asks it of what is called, and of its arguments.
func isCall(l []api.Node) bool { return len(l) > 0 && all(l, 1+api.MaxParams, isExpr) }

// all asks whether there are at most so many, and each is right.
func all[T any](l []T, most int, right func(T) bool) bool {
	return len(l) <= most && !slices.ContainsFunc(l, func(x T) bool { return !right(x) })
}
