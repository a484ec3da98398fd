package scope

import (
	"slices"

	"proteus/api"
)

// resolver goes through a right program, function by function.
type resolver struct {
	globals names
	locals  names // of the function that it is in; function 0 has none
	fns     []api.Fn
}

// whole makes function 0.
func (r *resolver) whole(l []api.Node) fault {
	if f := r.globals.lets(l); f.found() {
		return f
	}
	// It has its number ahead of those within it.
	r.fns = append(r.fns, api.Fn{})
	body, f := each(l, r.node)
	r.fns[0].Body = body
	return f
}

// function makes the next function of an EFn, and is the EFun of its number.
func (r *resolver) function(fn api.Node) (api.Node, fault) {
	number := len(r.fns)
	if number == api.MaxFns {
		return api.Node{}, fault{fn.At, api.ErrFull}
	}
	around := r.locals
	r.locals = names{}
	if f := r.locals.params(fn); f.found() {
		return api.Node{}, f
	}
	if f := r.locals.lets(fn.Kids); f.found() {
		return api.Node{}, f
	}
	r.fns = append(r.fns, api.Fn{Params: len(fn.Names), Locals: len(r.locals)})
	body, f := each(fn.Kids, r.node)
	r.fns[number].Body = body
	r.locals = around
	return api.Node{Kind: api.EFun, N: number}, f
}

// node is one whose names are numbers, all of it.
func (r *resolver) node(n api.Node) (api.Node, fault) {
	out := api.Node{Kind: n.Kind, Op: n.Op, N: n.N, S: n.S, Names: slices.Clone(n.Names)}
	f := fault{}
	switch n.Kind {
	case api.EFn:
		out, f = r.function(n)
	case api.EName, api.SLet, api.SAssign:
		if out, f = r.find(n); f.found() {
			break
		}
		// Its own name is ahead of its Kids, which are as everyone's.
		fallthrough
	default:
		out.Kids, f = each(n.Kids, r.node)
	}
	if f.found() {
		return api.Node{}, f
	}
	return out, fault{}
}

// find is a node in the place of one that has a name, yet without its Kids.
func (r *resolver) find(n api.Node) (api.Node, fault) {
	local, global := api.SLocal, api.SGlobal
	if n.Kind == api.EName {
		local, global = api.ELocal, api.EGlobal
	}
	if number, ok := r.locals[n.S]; ok {
		return api.Node{Kind: local, N: number}, fault{}
	}
	if number, ok := r.globals[n.S]; ok {
		return api.Node{Kind: global, N: number}, fault{}
	}
	return api.Node{}, fault{n.At, api.ErrName}
}

// each is what becomes of nodes, from the left on, up to the first fault.
func each(l []api.Node, resolve func(api.Node) (api.Node, fault)) ([]api.Node, fault) {
	var out []api.Node
	for _, n := range l {
		m, f := resolve(n)
		if f.found() {
			return nil, f
		}
		out = append(out, m)
	}
	return out, fault{}
}
