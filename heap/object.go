package heap

import (
	"proteus/api"
	"proteus/dict"
)

// object is one, of slots or of a dictionary: what it is asked here does not tell which. Where it changes, it is answered as it is kept from then on.
type object interface {
	proto() int
	own(name string) (api.Value, bool)
	change(name string, v api.Value) bool // false, if there is no such property: then nothing is done
	count() int
	key(i int) (string, bool)
}

// with gives an object a property behind all that it has; there is none of that name yet.
func with(x object, name string, v api.Value) object {
	switch x := x.(type) {
	case *slotted:
		if to := x.of.next(x.shape, name); to > 0 {
			return x.grown(to, v)
		}
		return with(x.loose(), name, v)
	case *dictionary:
		x.props.Set(name, v)
	}
	return x
}

// without takes a property from it. Shapes only grow, so that it is a dictionary then, whichever property goes.
func without(x object, name string) object {
	switch x := x.(type) {
	case *slotted:
		return without(x.loose(), name)
	case *dictionary:
		x.props.Delete(name)
	}
	return x
}

// under gives it another prototype.
func under(x object, p int) object {
	switch x := x.(type) {
	case *slotted:
		if to := x.of.shapes.Move(x.shape, p); to > 0 {
			x.shape = to
			return x
		}
		return under(x.loose(), p)
	case *dictionary:
		x.above = p
	}
	return x
}

// dictionary is an object whose properties are its own alone.
type dictionary struct {
	above int
	props *dict.Dict
}

func (d *dictionary) proto() int { return d.above }

func (d *dictionary) own(name string) (api.Value, bool) { return d.props.Get(name) }

func (d *dictionary) change(name string, v api.Value) bool {
	_, is := d.props.Get(name)
	if is {
		d.props.Set(name, v)
	}
	return is
}

func (d *dictionary) count() int { return d.props.Len() }

func (d *dictionary) key(i int) (string, bool) { return d.props.Key(i) }
