package walk

import (
	"proteus/api"
	"proteus/ops"
)

// built is what a built-in call answers.
func (w *walker) built(op int, v []api.Value) api.Value {
	switch op {
	case api.BLen:
		return must(ops.Len(v[0]))
	case api.BStr:
		return must(ops.Text(v[0], w.limits.Str))
	}
	o := as(v[0], api.Obj)
	switch op {
	case api.BCount:
		return api.Value{Kind: api.Int, N: w.heap.Count(o.N)}
	case api.BKey:
		return w.key(o, as(v[1], api.Int))
	case api.BHas:
		return w.has(o, as(v[1], api.Str))
	case api.BProto:
		return w.proto(o)
	}
	return w.setProto(o, v[1])
}

// key is the name of a property by its place.
func (w *walker) key(o, i api.Value) api.Value {
	name, is := w.heap.Key(o.N, i.N)
	if !is {
		return api.Value{}
	}
	return api.Value{Kind: api.Str, S: name}
}

// has asks for a property of the object itself, whatever its chain has.
func (w *walker) has(o, name api.Value) api.Value {
	v := api.Value{Kind: api.Bool}
	if _, is := w.heap.Own(o.N, name.S); is {
		v.N = 1
	}
	return v
}

// proto is the object's prototype.
func (w *walker) proto(o api.Value) api.Value {
	p := w.heap.Proto(o.N)
	if p == 0 {
		return api.Value{}
	}
	return api.Value{Kind: api.Obj, N: p}
}

// setProto gives the object another one, or none by a Null, whose number is 0 as the heap's none is.
func (w *walker) setProto(o, p api.Value) api.Value {
	if p.Kind != api.Null {
		p = as(p, api.Obj)
	}
	check(w.heap.SetProto(o.N, p.N))
	return o
}
