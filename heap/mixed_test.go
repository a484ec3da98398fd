package heap_test

import (
	"math"
	"slices"
	"testing"

	"proteus/api"
	"proteus/heap"
)

// dice are numbers that look mixed, the same ones each time.
type dice uint64

func (d *dice) below(n int) int {
	*d = *d*6364136223846793005 + 1442695040888963407
	return int(uint64(*d) >> 33 % uint64(n))
}

// deed is one call that changes a Heap, whatever its shapes are.
type deed struct {
	what, o, p int
	name       string
	v          api.Value
}

// someDeed is of few objects and names; of twenty numbers one is no object's.
func (d *dice) someDeed(objects int, names []string) deed {
	number := func() int {
		if d.below(20) == 0 {
			none := noNumbers(objects)
			return none[d.below(len(none))]
		}
		return d.below(objects) + 1
	}
	x := deed{what: d.below(16), o: number(), p: number(), name: names[d.below(len(names))]}
	if d.below(4) == 0 {
		x.p = 0
	}
	x.v = someValues()[d.below(len(someValues()))]
	return x
}

func (w *twin) do(t *testing.T, x deed) {
	t.Helper()
	switch x.what {
	case 0, 1:
		w.make(t)
	case 2:
		w.drop(t, x.o, x.name)
	case 3, 4, 5:
		w.setProto(t, x.o, x.p)
	default:
		w.set(t, x.o, x.name, x.v)
	}
}

// bySlots is one call of those that hang on shapes.
func (d *dice) bySlots(t *testing.T, w *twin, x deed) {
	t.Helper()
	id := w.h.Shape(x.o)
	if d.below(5) == 0 {
		id = d.below(len(w.m.classes)+3) - 1
	}
	switch d.below(3) {
	case 0:
		w.put(t, x.o, d.below(maxSlots+2)-1, x.v)
	case 1:
		w.next(t, id, x.name)
	case 2:
		w.grow(t, x.o, w.next(t, id, x.name), x.v)
	}
}

// alike asks of a Heap alone what holds in each: objects of one shape are of one prototype, with the same names in the same slots; no chain goes round.
func alike(t *testing.T, h *heap.Heap) {
	t.Helper()
	first := map[int]int{}
	for o := 1; o <= h.Len(); o++ {
		for p, n := h.Proto(o), 0; p != 0; p, n = h.Proto(p), n+1 {
			if p == o || n > h.Len() {
				t.Fatalf("%d is on the chain of its prototype", o)
			}
		}
		id := h.Shape(o)
		if id == 0 {
			continue
		}
		for i := range h.Count(o) {
			name, _ := h.Key(o, i)
			if h.SlotOf(id, name) != i {
				t.Fatalf("%q is in slot %d, not in %d", name, h.SlotOf(id, name), i)
			}
		}
		a, there := first[id]
		if !there {
			first[id] = o
			continue
		}
		if h.Proto(a) != h.Proto(o) || h.Count(a) != h.Count(o) {
			t.Fatalf("%d and %d are of one shape", a, o)
		}
	}
}

// sameButShapes asks two Heaps for all that shapes do not show in.
func sameButShapes(t *testing.T, a, b *heap.Heap, names []string) {
	t.Helper()
	if a.Len() != b.Len() || a.Dump() != b.Dump() {
		t.Fatalf("they are %q and %q", a.Dump(), b.Dump())
	}
	for o := 0; o <= a.Len()+1; o++ {
		if a.Proto(o) != b.Proto(o) || a.Count(o) != b.Count(o) || a.Epoch(o) != b.Epoch(o) {
			t.Fatalf("%d is of epoch %d in one, and of %d in the other", o, a.Epoch(o), b.Epoch(o))
		}
		for i := -1; i <= a.Count(o); i++ {
			s, is := a.Key(o, i)
			if z, too := b.Key(o, i); s != z || is != too {
				t.Fatalf("Key(%d, %d) is %q and %q", o, i, s, z)
			}
		}
		for _, name := range names {
			v, is := a.Own(o, name)
			if z, too := b.Own(o, name); v != z || is != too || a.Get(o, name) != b.Get(o, name) {
				t.Fatalf("%q of %d is %v and %v", name, o, v, z)
			}
		}
	}
}

// P12.6: the same deeds with several numbers of shapes side by side: each as the model says, and all alike.
func TestShapesDoNotShow(t *testing.T) {
	for seed := range 24 {
		d := dice(seed)
		names := append(letters(2+seed), "")
		objects, props := 3+seed%7, 1+seed
		var all []*twin
		for _, shapes := range []int{-1, 0, 1, 2, 5, 20, 60, maxShapes, math.MaxInt} {
			all = append(all, newTwin(objects, props, shapes))
		}
		for i := range 250 {
			x := d.someDeed(objects, names)
			for _, w := range all {
				w.do(t, x)
				alike(t, w.h)
			}
			for _, w := range all[1:] {
				sameButShapes(t, all[0].h, w.h, names)
			}
			if i%10 == 0 {
				for _, w := range all {
					w.hold(t, names...)
				}
			}
		}
	}
}

// P12.6: mixed rows with the calls that hang on shapes among them, each Heap against its model.
func TestMixed(t *testing.T) {
	for seed := range 60 {
		d := dice(seed)
		names := append(letters(2+seed%17), "")
		objects := 2 + seed%9
		w := newTwin(objects, 1+seed%maxProps, []int{0, 1, 6, 25, 80, maxShapes}[seed%6])
		for i := range 400 {
			x := d.someDeed(objects, names)
			if d.below(3) == 0 {
				d.bySlots(t, w, x)
			} else {
				w.do(t, x)
			}
			alike(t, w.h)
			if i%5 == 0 {
				w.hold(t, names...)
			}
		}
		w.hold(t, names...)
	}
}

// P12.6: all rows of five deeds out of nine on two objects, with much and with little room.
func TestAllShortRows(t *testing.T) {
	deeds := []func(w *twin){
		func(w *twin) { w.set(t, 1, "a", integer(1)) },
		func(w *twin) { w.set(t, 1, "b", integer(2)) },
		func(w *twin) { w.set(t, 2, "a", integer(3)) },
		func(w *twin) { w.drop(t, 1, "a") },
		func(w *twin) { w.setProto(t, 1, 2) },
		func(w *twin) { w.setProto(t, 2, 1) },
		func(w *twin) { w.setProto(t, 1, 0) },
		func(w *twin) { w.grow(t, 2, w.next(t, w.h.Shape(2), "b"), integer(4)) },
		func(w *twin) { w.put(t, 1, 0, integer(5)) },
	}
	const long = 5
	rows := 1
	for range long {
		rows *= len(deeds)
	}
	for _, shapes := range []int{0, 3, maxShapes} {
		for row := range rows {
			w := newTwin(2, 2, shapes)
			w.makes(t, 2)
			for i, r := 0, row; i < long; i, r = i+1, r/len(deeds) {
				deeds[r%len(deeds)](w)
			}
			alike(t, w.h)
			if got, want := w.h.Dump(), w.m.dump(); got != want {
				t.Fatalf("row %d: it is %q, not %q", row, got, want)
			}
			if row%7 == 0 {
				w.hold(t, "a", "b")
			}
		}
	}
}

// P12.6: several Heaps, with deeds to one at a time: no other shows them.
func TestSideBySide(t *testing.T) {
	d := dice(7)
	names := letters(6)
	var all []*twin
	for i := range 5 {
		all = append(all, newTwin(6, 6, 40*i))
	}
	for range 500 {
		w := all[d.below(len(all))]
		if x := d.someDeed(6, names); d.below(4) == 0 {
			d.bySlots(t, w, x)
		} else {
			w.do(t, x)
		}
		for _, w := range all {
			w.hold(t, names...)
		}
	}
	if all[3].h.Dump() == all[4].h.Dump() {
		t.Error("the test's Heaps are too much alike")
	}
}

// P12.6: two Heaps of which the same is asked are the same, their shapes too.
func TestSameRowSameShapes(t *testing.T) {
	one, other := newTwin(9, 9, 70), newTwin(9, 9, 70)
	d, e := dice(3), dice(3)
	for range 600 {
		one.do(t, d.someDeed(9, letters(12)))
		other.do(t, e.someDeed(9, letters(12)))
	}
	sameButShapes(t, one.h, other.h, letters(12))
	var a, b []int
	for o := 1; o <= 9; o++ {
		a, b = append(a, one.h.Shape(o)), append(b, other.h.Shape(o))
	}
	if !slices.Equal(a, b) {
		t.Error("the shapes are", a, b)
	}
}

// P12.6: as many objects, properties and shapes as there may be, and more of each asked for.
func TestAllTheRoom(t *testing.T) {
	w := roomy(t, maxObjects+1)
	names := letters(maxProps + 1)
	for o := 1; o <= maxObjects; o++ {
		for i := range maxProps + 1 {
			w.set(t, o, names[(i*(o%3+1)+o)%len(names)], integer(o))
		}
		if o%4 == 0 {
			w.setProto(t, o-1, o)
			w.drop(t, o, names[o%len(names)])
		}
	}
	if w.h.Len() != maxObjects || w.h.Count(1) != maxProps || len(w.m.classes) != maxShapes {
		t.Error("the test's Heap is too small", w.h.Len(), w.h.Count(1), len(w.m.classes))
	}
	alike(t, w.h)
	w.hold(t, names...)
}
