package heap

import (
	"strings"

	"proteus/api"
	"proteus/value"
)

// store is what a Heap has: objects, object 1 being the list's first, and how many of them, and of properties, there may be.
type store struct {
	most, props int
	classes     *classes
	all         []*numbered
}

// numbered is what a number leads to: an object as it is kept now, and how often it has changed.
type numbered struct {
	object
	epoch int
}

// become is a change, whether the object is kept otherwise from then on or not.
func (n *numbered) become(x object) {
	n.object = x
	n.epoch++
}

// tell writes the object's line.
func (n *numbered) tell(b *strings.Builder, o int) {
	b.WriteString(mark(o) + " " + mark(n.proto()))
	for i := range n.count() {
		name, _ := n.key(i)
		v, _ := n.own(name)
		b.WriteString(" " + name + ":" + value.Print(v))
	}
	b.WriteString("\n")
}

// mark is an object's number as a value of it is printed; so is 0, which is none's.
func mark(o int) string { return value.Print(api.Value{Kind: api.Obj, N: o}) }
