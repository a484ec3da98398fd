package heap_test

import (
	"math"
	"slices"
	"testing"

	"proteus/api"
)

// P12.4: the chapter's example.
func TestExample(t *testing.T) {
	w := roomy(t, 3)
	for o := 1; o <= 2; o++ {
		w.sets(t, o, "x", "y")
	}
	w.sets(t, 3, "y", "x")
	if w.h.Shape(1) != w.h.Shape(2) || w.h.Shape(1) == 0 || w.h.Shape(3) == w.h.Shape(1) {
		t.Error(w.h.Shape(1), w.h.Shape(2), w.h.Shape(3))
	}
	w.hold(t, "x", "y")
}

// P12.2: the thirteenth name makes a dictionary, which goes on as one.
func TestThirteenthName(t *testing.T) {
	w := roomy(t, 3)
	for o := 1; o <= 2; o++ {
		for i, name := range letters(20) {
			w.set(t, o, name, integer(i+o))
			if (w.h.Shape(o) == 0) != (i >= maxSlots) {
				t.Errorf("with %d names it is of %d", i+1, w.h.Shape(o))
			}
			w.hold(t, letters(20)...)
		}
	}
	w.drop(t, 1, "n19")
	w.set(t, 1, "n0", str("again"))
	w.setProto(t, 1, 3)
	w.set(t, 1, "n19", str("again"))
	w.hold(t, letters(21)...)
	if w.h.Shape(1) != 0 {
		t.Error("it is of a shape again")
	}
}

// P12.2: for want of shapes a property makes a dictionary; where the shape is there, it does not.
func TestWantOfShapes(t *testing.T) {
	for room := range 6 {
		w := newTwin(3, 9, room)
		w.makes(t, 3)
		for o := 1; o <= 2; o++ {
			for i, name := range []string{"a", "b", "c", "d", "e"} {
				w.set(t, o, name, integer(i))
				if (w.h.Shape(o) == 0) != (i+2 > room) {
					t.Errorf("room for %d: with %d names it is of %d", room, i+1, w.h.Shape(o))
				}
				w.hold(t, "a", "b", "c", "d", "e")
			}
		}
		// What has become a dictionary goes on as one, and the shapes that there are serve others.
		w.sets(t, 1, "a", "q", "e")
		w.drop(t, 1, "b")
		w.setProto(t, 1, 2)
		w.set(t, 3, "b", integer(1))
		w.hold(t, "a", "b", "c", "d", "e", "q")
	}
}

// P12.4: slots, asked and put.
func TestPut(t *testing.T) {
	w := roomy(t, 3)
	w.sets(t, 1, "a", "b", "c")
	w.sets(t, 2, "a", "b", "c")
	w.setProto(t, 3, 1)
	for i, name := range []string{"a", "b", "c"} {
		if slot := w.h.SlotOf(w.h.Shape(1), name); slot != i {
			t.Errorf("the slot of %s is %d", name, slot)
		}
		for _, v := range someValues() {
			if !w.put(t, 1, i, v) {
				t.Errorf("there is no slot %d", i)
			}
			if w.h.Get(3, name) != v || w.h.Get(2, name) != integer(i) {
				t.Errorf("slot %d has %v, and the other object's %v", i, w.h.Get(3, name), w.h.Get(2, name))
			}
		}
		w.hold(t, "a", "b", "c")
	}
	for _, i := range outside(3) {
		if w.put(t, 1, i, integer(9)) {
			t.Errorf("there is a slot %d", i)
		}
		w.hold(t)
	}
	for _, o := range append(noNumbers(3), 3) {
		for _, i := range []int{0, 1, -1, math.MaxInt, math.MinInt} {
			if w.put(t, o, i, integer(9)) {
				t.Errorf("there is a slot %d of %d", i, o)
			}
		}
	}
	w.hold(t)
	w.drop(t, 1, "b")
	for i := range 3 {
		if w.put(t, 1, i, integer(9)) {
			t.Error("a dictionary has a slot", i)
		}
	}
	w.hold(t, "b")
}

// P12.4: SlotOf of each name in each shape of a row, and of names that came elsewhere.
func TestSlotOf(t *testing.T) {
	w := roomy(t, 2)
	var shapes []int
	for _, name := range letters(maxSlots) {
		shapes = append(shapes, w.h.Shape(1))
		w.set(t, 1, name, integer(1))
	}
	w.sets(t, 2, "other", "n3")
	shapes = append(shapes, w.h.Shape(1))
	for n, id := range shapes {
		for i, name := range letters(maxSlots) {
			want := i
			if i >= n {
				want = -1
			}
			if got := w.h.SlotOf(id, name); got != want {
				t.Errorf("with %d names the slot of %s is %d", n, name, got)
			}
		}
		if w.h.SlotOf(id, "other") != -1 || w.h.SlotOf(id, "nobody's") != -1 || w.h.SlotOf(id, "") != -1 {
			t.Error("there is a slot of another name")
		}
	}
	if w.h.SlotOf(w.h.Shape(2), "n3") != 1 || w.h.SlotOf(w.h.Shape(2), "other") != 0 || w.h.SlotOf(w.h.Shape(2), "n0") != -1 {
		t.Error("the slots of the other object")
	}
	w.hold(t)
	for _, id := range noNumbers(len(w.m.classes)) {
		for _, name := range []string{"n0", "other", ""} {
			if got := w.h.SlotOf(id, name); got != -1 {
				t.Errorf("SlotOf(%d, %q) is %d", id, name, got)
			}
		}
	}
}

// P12.4: Next tells the shape that Set comes to, ahead of it and behind it.
func TestNext(t *testing.T) {
	w := roomy(t, 3)
	w.setProto(t, 3, 1)
	for i, name := range letters(maxSlots) {
		for _, o := range []int{2, 3} {
			was := w.h.Shape(o)
			to := w.next(t, was, name)
			w.hold(t, name)
			if to == 0 || w.h.Shape(o) != was || w.h.Count(o) != i || w.h.Epoch(o) != i+o-2 {
				t.Errorf("Next does something to %d, or is %d", o, to)
			}
			w.set(t, o, name, integer(i))
			if w.h.Shape(o) != to || w.next(t, was, name) != to {
				t.Errorf("Set comes to %d, Next to %d", w.h.Shape(o), to)
			}
			if w.next(t, to, name) != 0 {
				t.Error("a shape has a name twice")
			}
			w.hold(t, name)
		}
	}
	if w.next(t, w.h.Shape(2), "more") != 0 || w.next(t, w.h.Shape(3), "") != 0 {
		t.Error("a shape has thirteen names")
	}
	w.hold(t)
}

// P12.4: Next of what is no shape.
func TestNextOfNone(t *testing.T) {
	w := roomy(t, 2)
	w.sets(t, 1, "a", "b")
	for _, id := range noNumbers(3) {
		for _, name := range []string{"a", "b", "new", ""} {
			if to := w.next(t, id, name); to != 0 {
				t.Errorf("Next(%d, %q) is %d", id, name, to)
			}
		}
		w.hold(t, "new")
	}
	if w.next(t, 1, "new") != 4 {
		t.Error("some were made")
	}
}

// P12.4: Next, where there is room for one more and for none.
func TestNextWithoutRoom(t *testing.T) {
	w := newTwin(2, 9, 3)
	w.makes(t, 2)
	w.sets(t, 1, "a")
	if w.next(t, 1, "b") != 3 || w.next(t, 1, "c") != 0 || w.next(t, 2, "b") != 0 || w.next(t, 1, "b") != 3 || w.next(t, 1, "a") != 2 {
		t.Error("the last shape")
	}
	w.set(t, 2, "b", integer(1))
	if w.h.Shape(2) != 3 {
		t.Error("Set does not come to it", w.h.Shape(2))
	}
	w.hold(t, "a", "b", "c")
}

// P12.4: a property that comes by Grow, against the same by Set.
func TestGrow(t *testing.T) {
	for _, proto := range []int{0, 1} {
		w, s := roomy(t, 3), roomy(t, 3)
		if proto > 0 {
			w.setProto(t, 2, proto)
			s.setProto(t, 2, proto)
		}
		for i, name := range letters(maxSlots) {
			v := someValues()[i]
			s.set(t, 2, name, v)
			if e := w.grow(t, 2, w.next(t, w.h.Shape(2), name), v); e != api.OK {
				t.Fatalf("Grow with %d names is %v", i, e)
			}
			w.hold(t, name)
			s.hold(t, name)
			if w.h.Dump() != s.h.Dump() || w.h.Shape(2) != s.h.Shape(2) || w.h.Epoch(2) != s.h.Epoch(2) {
				t.Errorf("with %d names they are %q and %q", i+1, w.h.Dump(), s.h.Dump())
			}
		}
		if e := w.grow(t, 2, w.next(t, w.h.Shape(2), "more"), integer(1)); e != api.ErrArg {
			t.Error("the thirteenth by Grow", e)
		}
		w.set(t, 2, "more", integer(1))
		w.hold(t)
	}
}

// P12.4: Grow to what is not the next one.
func TestGrowToOthers(t *testing.T) {
	w := roomy(t, 5)
	w.sets(t, 1, "a", "b")
	w.sets(t, 2, "b")
	w.setProto(t, 3, 1)
	w.sets(t, 3, "a", "b")
	w.setProto(t, 4, 1)
	w.sets(t, 4, "a")
	w.drop(t, 5, "a")
	for _, o := range []int{1, 2, 3, 4, 5} {
		for to := -1; to <= len(w.m.classes)+1; to++ {
			if w.m.parent(to) == w.h.Shape(o) {
				continue
			}
			if e := w.grow(t, o, to, integer(9)); e != api.ErrArg {
				t.Errorf("Grow(%d, %d) is %v", o, to, e)
			}
		}
		for _, to := range noNumbers(len(w.m.classes)) {
			if e := w.grow(t, o, to, integer(9)); e != api.ErrArg {
				t.Errorf("Grow(%d, %d) is %v", o, to, e)
			}
		}
		w.hold(t, "a", "b")
	}
	// The same name, of another prototype, and of its own.
	if other, own := w.next(t, w.h.Shape(2), "q"), w.next(t, w.h.Shape(4), "q"); w.grow(t, 4, other, integer(1)) != api.ErrArg || w.grow(t, 4, own, integer(1)) != api.OK {
		t.Error("the prototypes of shapes")
	}
	w.hold(t, "a", "b", "q")
	for _, o := range noNumbers(5) {
		for _, to := range []int{0, 1, 2, w.h.Shape(4), -1, math.MaxInt, math.MinInt} {
			if e := w.grow(t, o, to, integer(9)); e != api.ErrNone {
				t.Errorf("Grow(%d, %d) is %v", o, to, e)
			}
		}
	}
	w.hold(t, "a", "b", "q")
}

// P12.4: Grow of dictionaries, however they became such.
func TestGrowOfDictionaries(t *testing.T) {
	w := newTwin(4, maxProps, 40)
	w.makes(t, 4)
	w.sets(t, 1, "a", "b")
	w.drop(t, 1, "b")
	w.drop(t, 2, "a")
	w.sets(t, 2, "a")
	w.drop(t, 2, "a")
	w.sets(t, 3, letters(13)...)
	for o := 1; o <= 3; o++ {
		for to := -1; to <= len(w.m.classes)+1; to++ {
			if e := w.grow(t, o, to, integer(9)); e != api.ErrArg {
				t.Errorf("Grow(%d, %d) is %v", o, to, e)
			}
		}
		w.hold(t)
	}
}

// P12.4: the last property that there may be comes by Grow, and one more does not.
func TestLastPropertyByGrow(t *testing.T) {
	for limit := range 5 {
		w := newTwin(2, limit, maxShapes)
		w.makes(t, 2)
		for i, name := range letters(limit) {
			if e := w.grow(t, 1, w.next(t, w.h.Shape(1), name), integer(i)); e != api.OK {
				t.Errorf("limit %d: the %d-th is %v", limit, i+1, e)
			}
		}
		to := w.next(t, w.h.Shape(1), "more")
		for range 2 {
			if e := w.grow(t, 1, to, integer(9)); to == 0 || e != api.LimProps {
				t.Errorf("limit %d: one more is %v", limit, e)
			}
			w.hold(t, "more")
		}
		w.grow(t, 2, w.next(t, 1, "other"), integer(1))
		w.hold(t, "more", "other")
	}
}

// P12.4: objects of one shape grow apart, each with its own values.
func TestGrowApart(t *testing.T) {
	w := roomy(t, 6)
	for o := 1; o <= 6; o++ {
		for i, name := range letters(o) {
			w.set(t, o, name, integer(10*o+i))
		}
		w.hold(t, letters(7)...)
	}
	for o := 1; o <= 6; o++ {
		for i := range o {
			w.put(t, o, i, integer(-100*o-i))
		}
		w.grow(t, o, w.next(t, w.h.Shape(o), "q"), integer(o))
		w.hold(t, letters(7)...)
	}
	var shapes []int
	for o := 1; o <= 6; o++ {
		shapes = append(shapes, w.h.Shape(o))
	}
	if slices.Contains(shapes, 0) || len(slices.Compact(shapes)) != 6 {
		t.Error("their shapes are", shapes)
	}
}

// P12.4: the name of a shape that only Next made has a slot there, and the object that comes to it has it.
func TestNextAlone(t *testing.T) {
	w := roomy(t, 1)
	to := w.next(t, w.next(t, 1, "b"), "a")
	if w.h.SlotOf(to, "a") != 1 || w.h.SlotOf(to, "b") != 0 {
		t.Error("the slots are", w.h.SlotOf(to, "a"), w.h.SlotOf(to, "b"))
	}
	if w.grow(t, 1, to, integer(1)) != api.ErrArg {
		t.Error("two at once")
	}
	w.sets(t, 1, "b", "a")
	if w.h.Shape(1) != to {
		t.Error("it is of", w.h.Shape(1))
	}
	w.hold(t, "a", "b")
}
