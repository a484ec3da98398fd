package shape

import (
	"iter"
	"slices"

	"proteus/api"
)

// one is a shape: its parent's names, and its own behind them. A root has neither a parent (0) nor a name: any number may be a name, so that only the parent tells it.
type one struct {
	proto, parent, name int
	next                map[int]int // by names; nil, till there is one
}

// trees are shapes as they were made; shape 1 is the list's first. There is one tree of a prototype, so that its root and the names on the way lead to a shape, and to no other.
type trees struct {
	most  int
	roots map[int]int // by prototypes
	all   []*one
}

// noTrees has room for so many shapes.
func noTrees(most int) *trees { return &trees{most: most, roots: map[int]int{}} }

// at is a shape that is there.
func (t *trees) at(id int) *one { return t.all[id-1] }

// put gives a new shape its number; 0, if there is no room.
func (t *trees) put(s *one) int {
	if len(t.all) >= t.most {
		return 0
	}
	t.all = append(t.all, s)
	return len(t.all)
}

func (t *trees) root(proto int) int {
	if id, there := t.roots[proto]; there {
		return id
	}
	id := t.put(&one{proto: proto})
	if id > 0 {
		t.roots[proto] = id
	}
	return id
}

func (t *trees) add(id, name int) int {
	s := t.at(id)
	if to, there := s.next[name]; there {
		return to
	}
	if t.size(id) >= api.MaxSlots || t.slot(id, name) >= 0 {
		return 0
	}
	to := t.put(&one{proto: s.proto, parent: id, name: name})
	if to > 0 {
		s.lead(name, to)
	}
	return to
}

// lead is for a shape of which a new one was made.
func (s *one) lead(name, to int) {
	if s.next == nil {
		s.next = map[int]int{}
	}
	s.next[name] = to
}

// up goes from a shape through its parents, and tells each with its own name; the root, which has none, is not told.
func (t *trees) up(id int) iter.Seq2[int, int] {
	return func(yield func(int, int) bool) {
		for at, s := id, t.at(id); s.parent > 0; at, s = s.parent, t.at(s.parent) {
			if !yield(at, s.name) {
				return
			}
		}
	}
}

// slot is the last one of the shape with which the name came.
func (t *trees) slot(id, name int) int {
	for at, own := range t.up(id) {
		if own == name {
			return t.size(at) - 1
		}
	}
	return -1
}

func (t *trees) size(id int) int {
	n := 0
	for range t.up(id) {
		n++
	}
	return n
}

func (t *trees) names(id int) []int {
	var out []int
	for _, own := range t.up(id) {
		out = append(out, own)
	}
	slices.Reverse(out)
	return out
}
