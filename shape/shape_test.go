package shape_test

import (
	"math"
	"slices"
	"testing"

	"proteus/shape"
)

// P11.1, P11.2: the chapter's example.
func TestExample(t *testing.T) {
	x := shape.New(maxShapes)
	if a, b, c, d := x.Root(0), x.Add(1, 5), x.Add(2, 6), x.Add(1, 5); a != 1 || b != 2 || c != 3 || d != 2 {
		t.Error(a, b, c, d)
	}
}

// P11.1
func TestNew(t *testing.T) {
	for _, most := range []int{-1, 0, 1, 7, maxShapes, math.MaxInt} {
		newTwin(most).hold(t)
	}
	if shape.New(1) == shape.New(1) {
		t.Error("two are one")
	}
}

// P11.1: how many there may be, cut from both sides.
func TestHowMany(t *testing.T) {
	for _, c := range []struct{ most, want int }{
		{math.MinInt, 0}, {math.MinInt + 1, 0}, {-maxShapes, 0}, {-1, 0}, {0, 0}, {1, 1}, {2, 2}, {3, 3}, {12, 12},
		{maxShapes - 1, maxShapes - 1}, {maxShapes, maxShapes}, {maxShapes + 1, maxShapes}, {1 << 32, maxShapes}, {math.MaxInt - 1, maxShapes}, {math.MaxInt, maxShapes},
	} {
		roots, kids := shape.New(c.most), shape.New(c.most)
		kids.Root(3)
		for i := range maxShapes + 5 {
			roots.Root(i)
			kids.Add(1, i)
		}
		if n := roots.Len(); n != c.want {
			t.Errorf("New(%d) has room for %d roots, not %d", c.most, n, c.want)
		}
		if n := kids.Len(); n != c.want {
			t.Errorf("New(%d) has room for %d shapes, not %d", c.most, n, c.want)
		}
	}
}

// P11.1: several prototypes, each once and again.
func TestRoot(t *testing.T) {
	x := shape.New(4)
	for i, step := range []struct{ proto, id, len int }{
		{0, 1, 1}, {0, 1, 1}, {9, 2, 2}, {0, 1, 2}, {2, 3, 3}, {9, 2, 3}, {-1, 0, 3}, {math.MinInt, 0, 3},
		{math.MaxInt, 4, 4}, {2, 3, 4}, {1, 0, 4}, {-9, 0, 4}, {math.MaxInt, 4, 4}, {0, 1, 4}, {9, 2, 4}, {1, 0, 4},
	} {
		if id := x.Root(step.proto); id != step.id {
			t.Errorf("step %d: Root(%d) is %d, not %d", i, step.proto, id, step.id)
		}
		if n := x.Len(); n != step.len {
			t.Errorf("step %d: Len is %d, not %d", i, n, step.len)
		}
	}
}

// P11.1: a root behind shapes that have names.
func TestRootBehindOthers(t *testing.T) {
	w := newTwin(20)
	w.grow(t, w.root(t, 5), 5, 6)
	w.hold(t)
	w.root(t, 6)
	w.root(t, 5)
	w.hold(t)
	w.grow(t, w.root(t, 6), 5, 6)
	w.root(t, 0)
	w.hold(t)
}

// P11.2, P11.3: three names in each order, over two prototypes, each asked for once and again, all else behind each.
func TestAddInAllOrders(t *testing.T) {
	w := newTwin(maxShapes)
	for range 2 {
		for _, proto := range []int{0, 4} {
			for _, names := range [][]int{{5, 6, 7}, {5, 7, 6}, {6, 5, 7}, {6, 7, 5}, {7, 5, 6}, {7, 6, 5}} {
				id := w.root(t, proto)
				for _, name := range names {
					again := w.add(t, id, name)
					if id = w.add(t, id, name); id != again {
						t.Errorf("%v has the numbers %d and %d", names, again, id)
					}
					w.hold(t)
				}
			}
		}
	}
	if w.x.Len() != 2*(1+3+6+6) {
		t.Error("Len", w.x.Len())
	}
}

// P11.3: what the shapes of a small forest have.
func TestWhatShapesHave(t *testing.T) {
	x := shape.New(9)
	x.Root(8)
	x.Add(1, 30)
	x.Add(2, 10)
	x.Add(3, 20)
	x.Add(1, 10)
	for i, want := range []struct {
		names        []int
		parent, slot int
	}{{nil, 0, -1}, {[]int{30}, 1, -1}, {[]int{30, 10}, 2, 1}, {[]int{30, 10, 20}, 3, 1}, {[]int{10}, 1, 0}} {
		id := i + 1
		if got := x.Names(id); !slices.Equal(got, want.names) || x.Size(id) != len(want.names) {
			t.Errorf("Names(%d) is %v, of Size %d, not %v", id, got, x.Size(id), want.names)
		}
		if p, is := x.Proto(id); p != 8 || !is {
			t.Errorf("Proto(%d) is %d, %v", id, p, is)
		}
		if got := x.Parent(id); got != want.parent {
			t.Errorf("Parent(%d) is %d, not %d", id, got, want.parent)
		}
		if got := x.Slot(id, 10); got != want.slot {
			t.Errorf("Slot(%d, 10) is %d, not %d", id, got, want.slot)
		}
	}
	if x.Len() != 5 {
		t.Error("Len", x.Len())
	}
}

// P11.2: a name that is there, as the first, a middle and the last one; also where there is no room.
func TestAddNameThatIsThere(t *testing.T) {
	for _, most := range []int{maxShapes, 5} {
		w := newTwin(most)
		id := w.grow(t, w.root(t, 1), 2, 0, -3, 4)
		for _, name := range []int{2, 0, -3, 4} {
			if got := w.add(t, id, name); got != 0 {
				t.Errorf("Add(%d, %d) is %d", id, name, got)
			}
			w.hold(t)
		}
		if w.x.Len() != 5 {
			t.Error("Len", w.x.Len())
		}
	}
}

// P11.2: so many names as there may be, and one more.
func TestMostSlots(t *testing.T) {
	w := newTwin(maxShapes)
	id := w.root(t, 0)
	for i := range maxSlots {
		id = w.add(t, id, 100-i)
		w.hold(t)
	}
	if id != maxSlots+1 || w.x.Size(id) != maxSlots || w.x.Slot(id, 100-maxSlots+1) != maxSlots-1 {
		t.Error("the last one is", id, w.x.Size(id))
	}
	for _, name := range append(farNumbers(), 100, 95, 100-maxSlots+1, 7) {
		if got := w.add(t, id, name); got != 0 {
			t.Errorf("Add(%d, %d) is %d", id, name, got)
		}
	}
	w.hold(t)
	if other := w.add(t, id-1, 7); other != id+1 || w.add(t, other, 8) != 0 {
		t.Error("beside it is", other)
	}
	moved := w.move(t, id, 6)
	if w.x.Size(moved) != maxSlots || w.add(t, moved, 7) != 0 || w.move(t, moved, 0) != id {
		t.Error("moved it is", moved, w.x.Size(moved))
	}
	w.hold(t)
}

// P11.1, P11.2: names may be any numbers, prototypes any that are not below 0.
func TestFarNumbers(t *testing.T) {
	w := newTwin(maxShapes)
	for _, proto := range farNumbers() {
		id := w.root(t, proto)
		if (id == 0) != (proto < 0) {
			t.Errorf("Root(%d) is %d", proto, id)
		}
		w.grow(t, id, farNumbers()...)
		w.hold(t)
	}
	for id := range w.list {
		for _, proto := range farNumbers() {
			if to := w.move(t, id+1, proto); (to == 0) != (proto < 0) {
				t.Errorf("Move(%d, %d) is %d", id+1, proto, to)
			}
		}
	}
	w.hold(t)
	last := w.x.Root(math.MaxInt)
	if p, is := w.x.Proto(last); p != math.MaxInt || !is {
		t.Error("Proto", p, is)
	}
	for _, name := range farNumbers() {
		last = w.x.Add(last, name)
	}
	if !slices.Equal(w.x.Names(last), farNumbers()) || w.x.Slot(last, math.MinInt) != 4 {
		t.Error("Names", w.x.Names(last))
	}
}

// P11.2: each call that may make shapes, with numbers that are no shape's: nothing is made, not even a root.
func TestNoSuchShape(t *testing.T) {
	w := newTwin(maxShapes)
	for n := range 6 {
		for _, id := range noShapes(len(w.list)) {
			for _, name := range append(farNumbers(), 5) {
				if got := w.add(t, id, name); got != 0 {
					t.Errorf("Add(%d, %d) is %d", id, name, got)
				}
				if got := w.move(t, id, name); got != 0 {
					t.Errorf("Move(%d, %d) is %d", id, name, got)
				}
			}
		}
		w.hold(t)
		if w.x.Len() != n {
			t.Fatal("Len", w.x.Len())
		}
		w.grow(t, w.root(t, 4), []int{5, 6, 7, 8, 9}[:n]...)
	}
}
