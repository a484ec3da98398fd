package walk

import (
	"proteus/api"
	"proteus/ops"
	"proteus/value"
)

// as is a value that has to be of a kind; else it ends the run.
func as(v api.Value, kind int) api.Value {
	if v.Kind != kind {
		panic(api.ErrType)
	}
	return v
}

// exprs walks some from the left on, each to its end.
func (w *walker) exprs(f *frame, l []api.Node) []api.Value {
	out := make([]api.Value, 0, len(l))
	for _, n := range l {
		out = append(out, w.expr(f, n))
	}
	return out
}

// expr walks one.
func (w *walker) expr(f *frame, n api.Node) api.Value {
	w.step()
	switch n.Kind {
	case api.EBool:
		return api.Value{Kind: api.Bool, N: n.N}
	case api.EInt:
		return api.Value{Kind: api.Int, N: n.N}
	case api.EStr:
		return api.Value{Kind: api.Str, S: n.S}
	case api.EFun:
		return api.Value{Kind: api.Fun, N: n.N}
	case api.EThis:
		return f.this
	case api.ELocal:
		return f.local(n.N)
	case api.EGlobal:
		return w.globals[n.N]
	case api.EObj:
		return w.object(f, n)
	case api.EAnd, api.EOr:
		return w.either(f, n)
	case api.EMeth:
		return w.method(f, n)
	}
	return w.worked(n, w.exprs(f, n.Kids))
}

// worked is what comes of a node all of whose Kids are walked ahead of all that it does; a Null, of one that has none.
func (w *walker) worked(n api.Node, v []api.Value) api.Value {
	switch n.Kind {
	case api.EUn:
		return must(ops.Un(n.Op, v[0]))
	case api.EBin:
		return must(ops.Bin(n.Op, v[0], v[1], w.limits.Str))
	case api.EGet:
		return w.get(v[0], n.S)
	case api.EIndex:
		return w.get(v[0], as(v[1], api.Str).S)
	case api.ECall:
		return w.call(v[0], api.Value{}, v[1:])
	case api.EBuilt:
		return w.built(n.Op, v)
	}
	return api.Value{}
}

// object makes one ahead of its properties, so that those that these make have greater numbers.
func (w *walker) object(f *frame, n api.Node) api.Value {
	o, e := w.heap.Make()
	check(e)
	v := api.Value{Kind: api.Obj, N: o}
	for i, k := range n.Kids {
		w.set(v, n.Names[i], w.expr(f, k))
	}
	return v
}

// either walks the second one only where the first one does not settle it.
func (w *walker) either(f *frame, n api.Node) api.Value {
	v := w.expr(f, n.Kids[0])
	if value.Truth(v) == (n.Kind == api.EOr) {
		return v
	}
	return w.expr(f, n.Kids[1])
}

// method looks up what is called ahead of the arguments: what these change comes too late for it.
func (w *walker) method(f *frame, n api.Node) api.Value {
	this := w.expr(f, n.Kids[0])
	fun := w.get(this, n.S)
	return w.call(fun, this, w.exprs(f, n.Kids[1:]))
}

// get is a property of an object, or of its chain.
func (w *walker) get(o api.Value, name string) api.Value {
	return w.heap.Get(as(o, api.Obj).N, name)
}

// set sets one of the object itself.
func (w *walker) set(o api.Value, name string, v api.Value) {
	check(w.heap.Set(as(o, api.Obj).N, name, v))
}

// drop lets one go, if the object itself has it.
func (w *walker) drop(o api.Value, name string) {
	w.heap.Delete(as(o, api.Obj).N, name)
}
