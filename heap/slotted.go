package heap

import (
	"proteus/api"
	"proteus/dict"
	"proteus/names"
	"proteus/shape"
)

// classes are a Heap's shapes, and the numbers of the names in them.
type classes struct {
	names  *names.Table
	shapes *shape.Forest
}

// newClasses has room for so many shapes.
func newClasses(most int) *classes {
	return &classes{names: names.New(), shapes: shape.New(most)}
}

// empty is an object without properties and prototype.
func (c *classes) empty() object {
	if id := c.shapes.Root(0); id > 0 {
		return &slotted{of: c, shape: id}
	}
	return &dictionary{props: dict.New()}
}

// slot is a name's in a shape; -1, if it has it not. A name without a number gets none by being asked for.
func (c *classes) slot(id int, name string) int {
	number, is := c.names.Find(name)
	if !is {
		return -1
	}
	return c.shapes.Slot(id, number)
}

// next is a shape with a name more; 0, if there can't be one. Where there is no shape, the name gets no number.
func (c *classes) next(id int, name string) int {
	if _, is := c.shapes.Proto(id); !is {
		return 0
	}
	return c.shapes.Add(id, c.names.Of(name))
}

// slotted is an object of a shape, which has all but the values: the names in their order, and the prototype.
type slotted struct {
	of     *classes
	shape  int
	values []api.Value
}

func (s *slotted) proto() int {
	p, _ := s.of.shapes.Proto(s.shape)
	return p
}

// value is that of a slot.
func (s *slotted) value(i int) (api.Value, bool) {
	if i < 0 || i >= len(s.values) {
		return api.Value{}, false
	}
	return s.values[i], true
}

// put asks whether there is such a slot.
func (s *slotted) put(i int, v api.Value) bool {
	if i < 0 || i >= len(s.values) {
		return false
	}
	s.values[i] = v
	return true
}

func (s *slotted) own(name string) (api.Value, bool) {
	return s.value(s.of.slot(s.shape, name))
}

func (s *slotted) change(name string, v api.Value) bool {
	return s.put(s.of.slot(s.shape, name), v)
}

func (s *slotted) count() int { return len(s.values) }

func (s *slotted) key(i int) (string, bool) {
	if i < 0 || i >= len(s.values) {
		return "", false
	}
	return s.of.names.Text(s.of.shapes.Names(s.shape)[i])
}

// grown gives it one slot more; so many has the shape to.
func (s *slotted) grown(to int, v api.Value) object {
	s.shape = to
	s.values = append(s.values, v)
	return s
}

// loose is the same as a dictionary.
func (s *slotted) loose() *dictionary {
	d := &dictionary{above: s.proto(), props: dict.New()}
	for i, v := range s.values {
		name, _ := s.key(i)
		d.props.Set(name, v)
	}
	return d
}
