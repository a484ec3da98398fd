package site

import (
	"proteus/api"
	"proteus/heap"
)

// Where a get's entry has found the property; any other number is an object's.
const (
	own     = 0
	nowhere = -1
)

// kept is an entry, and the heap that it is of: another one's shapes and objects have the same numbers.
type kept struct {
	Entry
	of heap.Heap
}

// seek is the entry of a get of an object, which is of a shape; false, if one that the entry would hang on is a dictionary.
func seek(h *heap.Heap, o int, name string) (kept, bool) {
	e := Entry{Shape: h.Shape(o)}
	if slot := h.SlotOf(e.Shape, name); slot >= 0 {
		e.Holder, e.Slot = own, slot
		return kept{e, *h}, true
	}
	for at := h.Proto(o); at > 0; at = h.Proto(at) {
		shape := h.Shape(at)
		if shape == 0 {
			return kept{}, false
		}
		e.Deps = append(e.Deps, Dep{Obj: at, Epoch: h.Epoch(at)})
		if slot := h.SlotOf(shape, name); slot >= 0 {
			e.Holder, e.Slot = at, slot
			return kept{e, *h}, true
		}
	}
	e.Holder = nowhere
	return kept{e, *h}, true
}

// holds asks of a get's entry whether what it hangs on is as it was.
func (k kept) holds(h *heap.Heap) bool {
	for _, d := range k.Deps {
		if h.Epoch(d.Obj) != d.Epoch {
			return false
		}
	}
	return true
}

// value is what a get's entry, which holds, says of an object.
func (k kept) value(h *heap.Heap, o int) api.Value {
	var v api.Value
	switch k.Holder {
	case own:
		v, _ = h.Slot(o, k.Slot)
	case nowhere:
	default:
		v, _ = h.Slot(k.Holder, k.Slot)
	}
	return v
}

// became is the entry of a set by which an object came from one shape to another, or stayed.
func became(h *heap.Heap, was, to int, name string) kept {
	e := Entry{Shape: was, To: to}
	if was == to {
		e.To, e.Slot = 0, h.SlotOf(was, name)
	}
	return kept{e, *h}
}

// set does what a set's entry says to an object.
func (k kept) set(h *heap.Heap, o int, v api.Value) api.Errno {
	if k.To > 0 {
		return h.Grow(o, k.To, v)
	}
	h.Put(o, k.Slot, v)
	return api.OK
}
