package state

import (
	"proteus/api"
	"proteus/ops"
	"proteus/tree"
)

// built is what a built-in call answers.
func (r *running) built(op int, args []api.Value) (api.Value, api.Errno) {
	if _, count := tree.Built(op); count == 0 || len(args) != count {
		return api.Value{}, api.ErrArg
	}
	switch op {
	case api.BLen:
		return ops.Len(args[0])
	case api.BStr:
		return ops.Text(args[0], r.limits.Str)
	}
	if e := typed(args[0], api.Obj); e != api.OK {
		return api.Value{}, e
	}
	o := args[0].N
	switch op {
	case api.BCount:
		return api.Value{Kind: api.Int, N: r.heap.Count(o)}, api.OK
	case api.BProto:
		return r.proto(o), api.OK
	case api.BKey:
		return r.key(o, args[1]), typed(args[1], api.Int)
	case api.BHas:
		return r.has(o, args[1]), typed(args[1], api.Str)
	}
	return args[0], r.setProto(o, args[1])
}

// key is the name of a property by its place.
func (r *running) key(o int, i api.Value) api.Value {
	name, is := r.heap.Key(o, i.N)
	if !is {
		return api.Value{}
	}
	return api.Value{Kind: api.Str, S: name}
}

// has asks for a property of the object itself, whatever its chain has.
func (r *running) has(o int, name api.Value) api.Value {
	v := api.Value{Kind: api.Bool}
	if _, is := r.heap.Own(o, name.S); is {
		v.N = 1
	}
	return v
}

// proto is the object's prototype.
func (r *running) proto(o int) api.Value {
	p := r.heap.Proto(o)
	if p == 0 {
		return api.Value{}
	}
	return object(p)
}

// setProto gives the object another one, or none by a Null, whatever number that has.
func (r *running) setProto(o int, p api.Value) api.Errno {
	if p.Kind == api.Null {
		p = object(0)
	}
	if e := typed(p, api.Obj); e != api.OK {
		return e
	}
	was := r.heap.Epoch(o)
	e := r.heap.SetProto(o, p.N)
	r.note(o, was)
	return e
}
