package scope

import (
	"slices"

	"proteus/api"
	"proteus/tree"
)

// isDeep asks whether a function has a statement that is higher than MaxNest.
func isDeep(f api.Fn) bool {
	// tree.Check says so of any node, ahead of whether it may be a program, and looks no deeper than it must.
	return slices.ContainsFunc(f.Body, func(n api.Node) bool { return tree.Check(n) == api.ErrDeep })
}

// within asks whether a number is from least to most.
func within(n, least, most int) bool { return least <= n && n <= most }

// isUnit asks whether a unit may be, but for how high it is.
func isUnit(u api.Unit) bool {
	if !within(u.Globals, 0, api.MaxVars) || !within(len(u.Fns), 1, api.MaxFns) {
		return false
	}
	for i, f := range u.Fns {
		if !hasRoom(f, i) || !(bounds{f.Locals, u.Globals, len(u.Fns)}).isBody(f.Body) {
			return false
		}
	}
	return true
}

// hasRoom asks whether the function of that number may have as many parameters and locals as it says.
func hasRoom(f api.Fn, number int) bool {
	if number == 0 {
		return f.Params == 0 && f.Locals == 0
	}
	return within(f.Params, 0, api.MaxParams) && within(f.Locals, f.Params, api.MaxVars)
}

// bounds is how many there are of what a function's nodes name by numbers.
type bounds struct{ locals, globals, fns int }

// isBody asks whether statements are right as a function's: as those of a block.
func (b bounds) isBody(l []api.Node) bool {
	return b.isRight(api.Node{Kind: api.SBlock, Kids: l})
}

// isRight asks it of a node and of all below it, as whatever they stand there for.
func (b bounds) isRight(n api.Node) bool {
	return b.isNamed(n) && isPlain(n) && !slices.ContainsFunc(n.Kids, func(k api.Node) bool { return !b.isRight(k) })
}

// isNamed asks whether a node has no name that is yet to be resolved, and names by number only what there is.
func (b bounds) isNamed(n api.Node) bool {
	switch n.Kind {
	case api.EName, api.EFn, api.SLet, api.SAssign:
		return false
	case api.ELocal, api.SLocal:
		return within(n.N, 0, b.locals-1)
	case api.EGlobal, api.SGlobal:
		return within(n.N, 0, b.globals-1)
	case api.EFun:
		return within(n.N, 0, b.fns-1)
	}
	return true
}

// isPlain asks whether a node's own fields are right, and its Kids of the right sorts. Chapter 6 says it of each node alone, so a least program is made around it, and tree.Check asked.
func isPlain(n api.Node) bool {
	n = unnumbered(n)
	n.Kids = standIns(n.Kids)
	if isExpr(n) {
		n = api.Node{Kind: api.SExpr, Kids: []api.Node{n}}
	}
	if n.Kind != api.SBlock {
		n = api.Node{Kind: api.SBlock, Kids: []api.Node{n}}
	}
	return tree.Check(n) == api.OK
}

// unnumbered is a node of chapter 6 that has the fields of this one, but for its number.
func unnumbered(n api.Node) api.Node {
	switch n.Kind {
	case api.ELocal, api.EGlobal, api.EFun:
		n.Kind, n.N = api.ENull, 0
	case api.SLocal, api.SGlobal:
		n.Kind, n.N = api.SExpr, 0
	}
	return n
}

// standIns are least right nodes of the same sorts. One of no sort counts as a statement here: it is wrong itself.
func standIns(l []api.Node) []api.Node {
	null := api.Node{Kind: api.ENull}
	var out []api.Node
	for _, n := range l {
		switch {
		case isExpr(n):
			out = append(out, null)
		case n.Kind == api.SBlock:
			out = append(out, api.Node{Kind: api.SBlock})
		default:
			out = append(out, api.Node{Kind: api.SExpr, Kids: []api.Node{null}})
		}
	}
	return out
}

// isExpr asks whether a node is an expression, right or not.
func isExpr(n api.Node) bool { return n.Kind >= api.ENull && n.Kind <= api.EFun }
