package heap_test

import (
	"testing"

	"proteus/api"
	"proteus/heap"
)

// P12.3: to another object, to 0, and back; of an object of a shape and of a dictionary.
func TestSetProto(t *testing.T) {
	for _, shapes := range []int{0, 1, 3, 7, maxShapes} {
		for _, loose := range []bool{false, true} {
			w := newTwin(4, 9, shapes)
			w.makes(t, 4)
			w.sets(t, 1, "a", "b")
			if loose {
				w.drop(t, 1, "a")
			}
			w.sets(t, 2, "c")
			w.sets(t, 3, "c", "d")
			for i, p := range []int{2, 3, 2, 0, 3, 0, 0, 4, 4, 2} {
				if e := w.setProto(t, 1, p); e != api.OK || w.h.Proto(1) != p {
					t.Fatalf("step %d: SetProto(1, %d) is %v", i, p, e)
				}
				w.hold(t, "a", "b", "c", "d")
			}
			if loose && w.h.Shape(1) != 0 {
				t.Error("a dictionary is of a shape again")
			}
		}
	}
}

// P12.3, P12.4: an object that comes back to a prototype is of the shape that it was of.
func TestSetProtoAndShapes(t *testing.T) {
	w := roomy(t, 5)
	for o := 1; o <= 2; o++ {
		w.sets(t, o, "a", "b")
	}
	was := w.h.Shape(1)
	w.setProto(t, 1, 3)
	moved := w.h.Shape(1)
	if moved == was || moved == 0 || w.h.Shape(2) != was {
		t.Error("another prototype, and the shape is", moved)
	}
	w.setProto(t, 2, 3)
	if w.h.Shape(2) != moved {
		t.Error("two of one prototype and the same names are of", moved, w.h.Shape(2))
	}
	w.setProto(t, 1, 0)
	if w.h.Shape(1) != was {
		t.Error("back, and the shape is", w.h.Shape(1))
	}
	if w.h.SlotOf(moved, "a") != 0 || w.h.SlotOf(moved, "b") != 1 {
		t.Error("the slots moved")
	}
	w.hold(t, "a", "b")
	w.setProto(t, 4, 3)
	w.sets(t, 4, "a", "b")
	if w.h.Shape(4) != moved {
		t.Error("properties behind the prototype, or ahead of it, make", w.h.Shape(4), moved)
	}
	w.hold(t, "a", "b")
}

// P12.3, P12.4: SetProto to the prototype that it has is done: the object changes, and is of the same shape.
func TestSetProtoToItsOwn(t *testing.T) {
	for _, shapes := range []int{0, 3, 6, maxShapes} {
		w := newTwin(3, 9, shapes)
		w.makes(t, 3)
		w.sets(t, 1, "a", "b")
		for _, p := range []int{0, 2} {
			w.setProto(t, 1, p)
			for range 3 {
				shape, epoch := w.h.Shape(1), w.h.Epoch(1)
				if e := w.setProto(t, 1, p); e != api.OK || w.h.Shape(1) != shape || w.h.Epoch(1) != epoch+1 {
					t.Errorf("SetProto(1, %d) again is %v, Epoch %d behind %d", p, e, w.h.Epoch(1), epoch)
				}
				w.hold(t, "a", "b")
			}
		}
	}
}

// P12.3: an object is not its own prototype, nor is one whose chain it is on, near or far; and nothing has changed.
func TestCycle(t *testing.T) {
	for _, shapes := range []int{0, 9, maxShapes} {
		w := newTwin(9, 9, shapes)
		w.makes(t, 9)
		for o := 1; o < 8; o++ {
			w.setProto(t, o, o+1)
		}
		w.sets(t, 3, "a")
		for o := 1; o <= 9; o++ {
			for p := 1; p <= o; p++ {
				want := api.ErrCycle
				if o == 9 && p < 9 {
					continue
				}
				if e := w.setProto(t, o, p); e != want {
					t.Errorf("SetProto(%d, %d) is %v", o, p, e)
				}
				w.hold(t, "a")
			}
		}
		// The other way round there is none: an object on the own chain may be the prototype.
		for _, x := range [][2]int{{1, 8}, {2, 5}, {3, 9}, {9, 8}} {
			if e := w.setProto(t, x[0], x[1]); e != api.OK {
				t.Errorf("SetProto(%d, %d) is %v", x[0], x[1], e)
			}
			w.hold(t, "a")
		}
		// A cycle that was refused may be none later.
		if w.setProto(t, 8, 7) != api.ErrCycle || w.setProto(t, 7, 0) != api.OK || w.setProto(t, 8, 7) != api.OK || w.setProto(t, 7, 8) != api.ErrCycle {
			t.Error("a chain that was cut goes round yet")
		}
		w.hold(t, "a")
	}
}

// P12.3: the longest chain that there may be; its ends, and a property found at the far one.
func TestLongestChain(t *testing.T) {
	for _, shapes := range []int{0, maxShapes} {
		w := newTwin(maxObjects, 2, shapes)
		w.makes(t, maxObjects)
		for o := 1; o < maxObjects; o++ {
			w.setProto(t, o, o+1)
		}
		w.set(t, maxObjects, "far", integer(1))
		if w.h.Get(1, "far") != integer(1) || w.setProto(t, maxObjects, 1) != api.ErrCycle || w.h.Get(1, "none") != (api.Value{}) {
			t.Error("the far end")
		}
		w.hold(t, "far")
	}
}

// P12.3: no such object, or no such prototype; nothing has changed.
func TestSetProtoOfNone(t *testing.T) {
	for _, shapes := range []int{0, maxShapes} {
		w := newTwin(4, 4, shapes)
		w.makes(t, 3)
		w.sets(t, 1, "a")
		w.setProto(t, 1, 2)
		for _, n := range noNumbers(3) {
			for o := 1; o <= 3; o++ {
				if e := w.setProto(t, n, o); e != api.ErrNone {
					t.Errorf("SetProto(%d, %d) is %v", n, o, e)
				}
				if e := w.setProto(t, o, n); n != 0 && e != api.ErrNone {
					t.Errorf("SetProto(%d, %d) is %v", o, n, e)
				}
				w.hold(t, "a")
			}
			for _, p := range noNumbers(3) {
				if e := w.setProto(t, n, p); e != api.ErrNone {
					t.Errorf("SetProto(%d, %d) is %v", n, p, e)
				}
			}
		}
		w.hold(t, "a")
	}
}

// P12.3: no shape is made for a prototype that is refused.
func TestRefusedSetProtoMakesNoShape(t *testing.T) {
	w := roomy(t, 2)
	w.sets(t, 1, "a")
	w.setProto(t, 1, 2)
	for _, p := range []int{3, -1, 1} {
		w.setProto(t, 1, p)
	}
	w.setProto(t, 2, 1)
	if id := w.next(t, 1, "b"); id != 5 {
		t.Error("the next shape is", id)
	}
}

// P12.3: the room ends at each place of a Move: the object is a dictionary, what was made of shapes stays, and the next objects come to it.
func TestRoomEndsWithinSetProto(t *testing.T) {
	names := []string{"a", "b", "c"}
	for room := range 6 {
		w := newTwin(4, 9, 4+room)
		w.makes(t, 4)
		w.sets(t, 1, names...)
		w.sets(t, 2, names...)
		for o := 1; o <= 2; o++ {
			if e := w.setProto(t, o, 3); e != api.OK || (w.h.Shape(o) == 0) != (room < 4) || w.h.Proto(o) != 3 {
				t.Errorf("room for %d: SetProto is %v, and it is of %d", room, e, w.h.Shape(o))
			}
			w.hold(t, names...)
		}
		w.setProto(t, 4, 3)
		for i, name := range names {
			if want := 5 + i; i < room && w.h.Shape(4) != want {
				t.Errorf("room for %d: with %d names it is of %d, not %d", room, i, w.h.Shape(4), want)
			}
			w.set(t, 4, name, integer(i))
			w.hold(t, names...)
		}
		// Back to no prototype: the ones that are dictionaries stay so.
		w.setProto(t, 1, 0)
		if (w.h.Shape(1) == 4) != (room >= 4) {
			t.Errorf("room for %d: back, it is of %d", room, w.h.Shape(1))
		}
		w.hold(t, names...)
	}
}

// P12.2 to P12.4: several errors at once: the first that the chapter names is answered.
func TestErrorsInOrder(t *testing.T) {
	for _, shapes := range []int{0, maxShapes} {
		w := newTwin(3, 1, shapes)
		w.makes(t, 3)
		w.sets(t, 1, "a")
		w.sets(t, 2, "a")
		w.drop(t, 2, "a")
		w.sets(t, 2, "a")
		child := w.next(t, w.h.Shape(1), "b")
		root := w.h.Shape(3)
		for what, x := range map[string][2]api.Errno{
			"Set of none, of a name that all have":          {w.set(t, 4, "a", integer(1)), api.ErrNone},
			"Set of none, and too many":                     {w.set(t, 0, "b", integer(1)), api.ErrNone},
			"Set of one that has it, and as many as may be": {w.set(t, 1, "a", integer(1)), api.OK},
			"Set of one that has as many as may be":         {w.set(t, 1, "b", integer(1)), api.LimProps},
			"SetProto of none to itself":                    {w.setProto(t, 4, 4), api.ErrNone},
			"SetProto of one below 0 to itself":             {w.setProto(t, -1, -1), api.ErrNone},
			"SetProto of 0 to itself":                       {w.setProto(t, 0, 0), api.ErrNone},
			"SetProto of none to none":                      {w.setProto(t, 9, -1), api.ErrNone},
			"Grow of none to none":                          {w.grow(t, 4, 0, integer(1)), api.ErrNone},
			"Grow of none to a shape":                       {w.grow(t, 0, child, integer(1)), api.ErrNone},
			"Grow of a dictionary that is full":             {w.grow(t, 2, child, integer(1)), api.ErrArg},
			"Grow to none of one that is full":              {w.grow(t, 1, 0, integer(1)), api.ErrArg},
			"Grow to the own shape of one that is full":     {w.grow(t, 1, w.h.Shape(1), integer(1)), api.ErrArg},
			"Grow to the root of one that is full":          {w.grow(t, 1, root, integer(1)), api.ErrArg},
		} {
			if x[0] != x[1] {
				t.Errorf("%s is %v, not %v", what, x[0], x[1])
			}
		}
		if e := w.grow(t, 1, child, integer(1)); shapes > 0 && e != api.LimProps || shapes == 0 && e != api.ErrArg {
			t.Errorf("Grow of one that is full is %v", e)
		}
		w.hold(t, "a", "b")
	}
}

// P12.4: how often an object has changed, behind each deed and each refusal.
func TestEpoch(t *testing.T) {
	for _, shapes := range []int{0, 2, maxShapes} {
		h := heap.New(api.Limits{Objects: 3, Props: 2}, shapes)
		h.Make()
		h.Make()
		h.Make()
		epoch := func(deed string, want int) {
			t.Helper()
			if h.Epoch(1) != want || h.Epoch(2) != 0 {
				t.Errorf("room %d: behind %s it is %d, not %d; of the other %d", shapes, deed, h.Epoch(1), want, h.Epoch(2))
			}
		}
		epoch("Make", 0)
		h.Set(1, "a", integer(1))
		epoch("a new property", 1)
		h.Set(1, "a", integer(2))
		h.Put(1, 0, integer(3))
		epoch("other values", 1)
		h.Set(1, "b", integer(1))
		epoch("another new property", 2)
		h.Set(1, "c", integer(1))
		h.Delete(1, "c")
		h.SetProto(1, 1)
		h.SetProto(1, 4)
		h.Grow(1, 1, integer(1))
		h.Put(1, 7, integer(3))
		h.Make()
		h.Next(1, "c")
		epoch("refused calls", 2)
		h.Delete(1, "a")
		epoch("Delete", 3)
		h.Delete(1, "a")
		epoch("Delete of none", 3)
		h.Set(1, "a", integer(1))
		epoch("a property that comes again", 4)
		h.SetProto(1, 2)
		epoch("SetProto", 5)
		h.SetProto(1, 2)
		epoch("SetProto to the same", 6)
		h.SetProto(1, 0)
		epoch("SetProto to none", 7)
		h.SetProto(3, 1)
		h.Set(3, "a", integer(1))
		epoch("deeds of one that has it for its prototype", 7)
		h.Own(1, "a")
		h.Get(1, "a")
		h.Dump()
		epoch("questions", 7)
	}
}
