package scope_test

import (
	"slices"

	"proteus/api"
)

// flat is all nodes, each ahead of its Kids.
func flat(l []api.Node) []*api.Node {
	var out []*api.Node
	for i := range l {
		out = append(out, &l[i])
		out = append(out, flat(l[i].Kids)...)
	}
	return out
}

// copied is a node anew, all of it.
func copied(n api.Node) api.Node {
	n.Names = slices.Clone(n.Names)
	n.Kids = copiedAll(n.Kids)
	return n
}

func copiedAll(l []api.Node) []api.Node {
	out := slices.Clone(l)
	for i := range out {
		out[i] = copied(out[i])
	}
	return out
}

func copiedUnit(u api.Unit) api.Unit {
	u.Fns = slices.Clone(u.Fns)
	for i := range u.Fns {
		u.Fns[i].Body = copiedAll(u.Fns[i].Body)
	}
	return u
}

// bareUnit is a unit anew, in which an empty list is none.
func bareUnit(u api.Unit) api.Unit {
	out := api.Unit{Globals: u.Globals}
	for _, f := range u.Fns {
		f.Body = bareAll(f.Body)
		out.Fns = append(out.Fns, f)
	}
	return out
}

func bareAll(l []api.Node) []api.Node {
	var out []api.Node
	for _, n := range l {
		n.Kids = bareAll(n.Kids)
		n.Names = append([]string(nil), n.Names...)
		out = append(out, n)
	}
	return out
}

// roomy is a node anew whose lists have room behind their ends, with something in it.
func roomy(n api.Node) api.Node {
	n.Names = append(slices.Clone(n.Names), "room")[:len(n.Names)]
	n.Kids = roomyAll(n.Kids)
	return n
}

func roomyAll(l []api.Node) []api.Node {
	out := append(slices.Clone(l), api.Node{Kind: -9})
	for i := range l {
		out[i] = roomy(out[i])
	}
	return out[:len(l)]
}

func roomyUnit(u api.Unit) api.Unit {
	fns := append(slices.Clone(u.Fns), api.Fn{Params: -9})
	for i := range u.Fns {
		fns[i].Body = roomyAll(fns[i].Body)
	}
	u.Fns = fns[:len(u.Fns)]
	return u
}

// isRoomy asks whether that is still there.
func isRoomy(n api.Node) bool {
	return n.Names[:len(n.Names)+1][len(n.Names)] == "room" && areRoomy(n.Kids)
}

func areRoomy(l []api.Node) bool {
	return l[:len(l)+1][len(l)].Kind == -9 && !slices.ContainsFunc(l, func(n api.Node) bool { return !isRoomy(n) })
}

// spoil changes all that is in nodes, and in the room behind them.
func spoil(l []api.Node) {
	for i := range l {
		spoil(l[i].Kids)
		for j := range l[i].Names {
			l[i].Names[j] = "spoilt"
		}
		l[i] = api.Node{Kind: -8}
	}
}
