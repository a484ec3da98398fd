package shape_test

import (
	"math"
	"slices"
	"testing"

	"proteus/shape"
)

const (
	maxSlots  = 12
	maxShapes = 150
)

// plain is a shape by what it has.
type plain struct {
	proto int
	names []int
}

// twin is a Forest, and the same as a plain list of shapes.
type twin struct {
	x    *shape.Forest
	most int
	list []plain
}

func newTwin(most int) *twin {
	return &twin{x: shape.New(most), most: min(max(most, 0), maxShapes)}
}

// find is the number of a shape that is in the list; 0, if it is not.
func (w *twin) find(proto int, names []int) int {
	return 1 + slices.IndexFunc(w.list, func(p plain) bool { return p.proto == proto && slices.Equal(p.names, names) })
}

// want is the number of a shape that is in the list from then on; 0, if there is no room for it.
func (w *twin) want(proto int, names []int) int {
	id := w.find(proto, names)
	if id == 0 && len(w.list) < w.most {
		w.list = append(w.list, plain{proto, slices.Clone(names)})
		id = len(w.list)
	}
	return id
}

func (w *twin) wantRoot(proto int) int {
	if proto < 0 {
		return 0
	}
	return w.want(proto, nil)
}

func (w *twin) wantAdd(id, name int) int {
	if id < 1 || id > len(w.list) {
		return 0
	}
	p := w.list[id-1]
	if len(p.names) == maxSlots || slices.Contains(p.names, name) {
		return 0
	}
	return w.want(p.proto, append(slices.Clone(p.names), name))
}

func (w *twin) wantMove(id, proto int) int {
	if id < 1 || id > len(w.list) {
		return 0
	}
	to := w.wantRoot(proto)
	for _, name := range w.list[id-1].names {
		if to == 0 {
			return 0
		}
		to = w.wantAdd(to, name)
	}
	return to
}

func (w *twin) root(t *testing.T, proto int) int {
	t.Helper()
	want := w.wantRoot(proto)
	if got := w.x.Root(proto); got != want {
		t.Errorf("Root(%d) is %d, not %d", proto, got, want)
	}
	w.isLong(t)
	return want
}

func (w *twin) add(t *testing.T, id, name int) int {
	t.Helper()
	want := w.wantAdd(id, name)
	if got := w.x.Add(id, name); got != want {
		t.Errorf("Add(%d, %d) is %d, not %d", id, name, got, want)
	}
	w.isLong(t)
	return want
}

func (w *twin) move(t *testing.T, id, proto int) int {
	t.Helper()
	want := w.wantMove(id, proto)
	if got := w.x.Move(id, proto); got != want {
		t.Errorf("Move(%d, %d) is %d, not %d", id, proto, got, want)
	}
	w.isLong(t)
	return want
}

// grow adds several names to the shape id, one behind the other.
func (w *twin) grow(t *testing.T, id int, names ...int) int {
	t.Helper()
	for _, name := range names {
		id = w.add(t, id, name)
	}
	return id
}

func (w *twin) isLong(t *testing.T) {
	t.Helper()
	if n := w.x.Len(); n != len(w.list) {
		t.Errorf("Len is %d, not %d", n, len(w.list))
	}
}

// noShapes are numbers that no shape has in a Forest of n.
func noShapes(n int) []int {
	return []int{0, -1, -2, -n, -n - 1, n + 1, n + 2, 2*n + 1, maxShapes + 1, math.MaxInt, math.MaxInt - 1, math.MinInt, math.MinInt + 1, 1 << 32, 1<<32 + 1}
}

// farNumbers are names, and prototypes, at the ends of what numbers can be.
func farNumbers() []int {
	return []int{0, -1, 1, math.MaxInt, math.MinInt, math.MaxInt - 1, math.MinInt + 1}
}

// hold asks all that can be asked without a change: twice, so that a change would show.
func (w *twin) hold(t *testing.T) {
	t.Helper()
	for range 2 {
		w.isLong(t)
		for i, p := range w.list {
			w.holdShape(t, i+1, p)
		}
		for _, id := range noShapes(len(w.list)) {
			holdNone(t, w.x, id)
		}
	}
}

func (w *twin) holdShape(t *testing.T, id int, p plain) {
	t.Helper()
	if got := w.x.Names(id); !slices.Equal(got, p.names) {
		t.Errorf("Names(%d) is %v, not %v", id, got, p.names)
	}
	if got := w.x.Size(id); got != len(p.names) {
		t.Errorf("Size(%d) is %d, not %d", id, got, len(p.names))
	}
	if got, is := w.x.Proto(id); got != p.proto || !is {
		t.Errorf("Proto(%d) is %d, %v, not %d", id, got, is, p.proto)
	}
	for i, name := range p.names {
		if got := w.x.Slot(id, name); got != i {
			t.Errorf("Slot(%d, %d) is %d, not %d", id, name, got, i)
		}
	}
	for _, name := range append(farNumbers(), p.proto, id, 2, 3, 4) {
		if got := w.x.Slot(id, name); got != slices.Index(p.names, name) {
			t.Errorf("Slot(%d, %d) is %d, of %v", id, name, got, p.names)
		}
	}
	w.holdParent(t, id, p)
}

func (w *twin) holdParent(t *testing.T, id int, p plain) {
	t.Helper()
	want := 0
	if n := len(p.names); n > 0 {
		want = w.find(p.proto, p.names[:n-1])
		if want == 0 {
			t.Errorf("the parent of %d is not in the list", id)
		}
	}
	if got := w.x.Parent(id); got != want || got >= id {
		t.Errorf("Parent(%d) is %d, not %d", id, got, want)
	}
}

// holdNone asks all of a number that is no shape's.
func holdNone(t *testing.T, x *shape.Forest, id int) {
	t.Helper()
	for _, name := range append(farNumbers(), id) {
		if got := x.Slot(id, name); got != -1 {
			t.Errorf("Slot(%d, %d) is %d", id, name, got)
		}
	}
	if got := x.Names(id); len(got) != 0 {
		t.Errorf("Names(%d) is %v", id, got)
	}
	if p, is := x.Proto(id); p != 0 || is {
		t.Errorf("Proto(%d) is %d, %v", id, p, is)
	}
	if got := x.Parent(id); got != 0 {
		t.Errorf("Parent(%d) is %d", id, got)
	}
	if got := x.Size(id); got != 0 {
		t.Errorf("Size(%d) is %d", id, got)
	}
}
