package shape_test

import (
	"slices"
	"testing"

	"proteus/shape"
)

// P11.2: to prototypes that are there and to new ones, and back.
func TestMove(t *testing.T) {
	w := newTwin(maxShapes)
	id := w.grow(t, w.root(t, 0), 5, 6, 7)
	w.root(t, 1)
	w.hold(t)
	there := w.move(t, id, 1)
	if there != 8 || w.x.Len() != 8 {
		t.Error("a prototype that is there", there, w.x.Len())
	}
	w.hold(t)
	anew := w.move(t, there, 2)
	if anew != 12 || w.x.Len() != 12 {
		t.Error("a new prototype", anew, w.x.Len())
	}
	w.hold(t)
	for _, step := range []struct{ id, proto, to int }{{there, 0, id}, {anew, 0, id}, {anew, 1, there}, {id, 1, there}, {id, 2, anew}, {there, 2, anew}} {
		if to := w.move(t, step.id, step.proto); to != step.to {
			t.Errorf("Move(%d, %d) is %d, not %d", step.id, step.proto, to, step.to)
		}
	}
	if w.x.Len() != 12 {
		t.Error("moving back made some", w.x.Len())
	}
	w.hold(t)
}

// P11.2: some of the shapes on the way are there, with others between.
func TestMoveToWhatIsThereInPart(t *testing.T) {
	w := newTwin(maxShapes)
	id := w.grow(t, w.root(t, 3), 1, 2, 3, 4)
	w.grow(t, w.root(t, 9), 1, 2, 4, 3)
	w.grow(t, w.root(t, 9), 2, 1)
	before := w.x.Len()
	if to := w.move(t, id, 9); to != before+2 || !slices.Equal(w.x.Names(to), []int{1, 2, 3, 4}) {
		t.Error(to, w.x.Names(to))
	}
	w.hold(t)
}

// P11.2: to its own prototype it is itself, and nothing is made; also where there is no room.
func TestMoveToItsOwn(t *testing.T) {
	for _, most := range []int{maxShapes, 8} {
		w := newTwin(most)
		w.grow(t, w.root(t, 0), 5, 6, 7)
		w.grow(t, w.root(t, 3), 7, 6, 5)
		for id := 1; id <= 8; id++ {
			p, _ := w.x.Proto(id)
			if to := w.move(t, id, p); to != id {
				t.Errorf("Move(%d, %d) is %d", id, p, to)
			}
		}
		if w.x.Len() != 8 {
			t.Error("Len", w.x.Len())
		}
		w.hold(t)
	}
}

// P11.2: a shape without names is a root, moved to a root.
func TestMoveWithoutNames(t *testing.T) {
	w := newTwin(3)
	root := w.root(t, 5)
	if to := w.move(t, root, 6); to != 2 || w.root(t, 6) != 2 {
		t.Error("a new one", to)
	}
	w.root(t, 0)
	if to := w.move(t, root, 0); to != 3 {
		t.Error("one that is there", to)
	}
	if to := w.move(t, 3, 5); to != root {
		t.Error("back", to)
	}
	if to := w.move(t, root, 7); to != 0 {
		t.Error("no room", to)
	}
	if to := w.move(t, root, -1); to != 0 {
		t.Error("below 0", to)
	}
	w.hold(t)
}

// P11.2: a prototype below 0 makes nothing.
func TestMoveBelowZero(t *testing.T) {
	w := newTwin(maxShapes)
	w.grow(t, w.root(t, 0), 5, 6)
	for id := 1; id <= 3; id++ {
		if to := w.move(t, id, -id); to != 0 || w.x.Len() != 3 {
			t.Error("Move", id, to, w.x.Len())
		}
	}
	w.hold(t)
}

// full is a Forest of three shapes and no room for more.
func full(t *testing.T) *twin {
	w := newTwin(3)
	w.grow(t, w.root(t, 0), 5)
	w.root(t, 1)
	return w
}

// P11.1, P11.2: where there is no room, shapes that are there are answered as before.
func TestNoRoom(t *testing.T) {
	w := full(t)
	w.hold(t)
	for range 3 {
		for _, got := range []int{w.root(t, 2), w.add(t, 1, 6), w.add(t, 2, 6), w.add(t, 3, 5), w.move(t, 1, 2), w.move(t, 2, 1), w.move(t, 2, 2)} {
			if got != 0 {
				t.Error("it is", got)
			}
		}
		if w.root(t, 0) != 1 || w.root(t, 1) != 3 || w.add(t, 1, 5) != 2 || w.move(t, 3, 0) != 1 || w.move(t, 2, 0) != 2 {
			t.Error("what is there is not answered")
		}
		w.hold(t)
	}
}

// P11.1, P11.2: the last shape that there may be, of so many as there may be at all, by each call.
func TestLastOfAll(t *testing.T) {
	for _, last := range []func(w *twin) int{
		func(w *twin) int { return w.root(t, 900) },
		func(w *twin) int { return w.add(t, 2, 900) },
		func(w *twin) int { return w.move(t, 1, 900) },
	} {
		w := newTwin(maxShapes)
		for w.grow(t, w.root(t, 0), 1); len(w.list) < maxShapes-1; {
			w.add(t, 1, len(w.list))
		}
		if id := last(w); id != maxShapes {
			t.Error("the last one is", id)
		}
		if w.root(t, 901) != 0 || w.add(t, 2, 901) != 0 || w.add(t, maxShapes, 1) != 0 || w.move(t, 1, 901) != 0 {
			t.Error("there is one more")
		}
		if last(w) != maxShapes {
			t.Error("the last one is not there any more")
		}
		w.hold(t)
	}
}

// P11.2: the room ends at each place of a Move; what was made then stays, and is met again.
func TestRoomEndsWithinMove(t *testing.T) {
	names := []int{5, 6, 7, 8}
	for room := range 6 {
		w := newTwin(5 + room)
		id := w.grow(t, w.root(t, 0), names...)
		to := w.move(t, id, 1)
		if (to == 0) != (room < 5) || w.x.Len() != 5+room {
			t.Errorf("room for %d: Move is %d, and there are %d", room, to, w.x.Len())
		}
		w.hold(t)
		if again := w.move(t, id, 1); again != to || w.x.Len() != 5+room {
			t.Errorf("room for %d: Move is %d and then %d", room, to, again)
		}
		at := w.x.Root(1)
		for i := range room {
			if at != 6+i || !slices.Equal(w.x.Names(at), names[:i]) {
				t.Errorf("room for %d: the %d-th that was made is %d, with %v", room, i, at, w.x.Names(at))
			}
			if i < len(names) {
				at = w.x.Add(at, names[i])
			}
		}
		w.hold(t)
	}
}

// P11.4: each call on a nil Forest and on one that no call made, and again behind a Root.
func TestNoForest(t *testing.T) {
	var none shape.Forest
	for what, x := range map[string]*shape.Forest{"nil": nil, "zero": {}, "new": new(shape.Forest), "var": &none} {
		for round := range 3 {
			if x.Len() != 0 {
				t.Errorf("%s, round %d: Len is %d", what, round, x.Len())
			}
			for _, id := range append(noShapes(1), 1) {
				holdNone(t, x, id)
				for _, n := range farNumbers() {
					if a, m := x.Add(id, n), x.Move(id, n); a != 0 || m != 0 {
						t.Errorf("%s, round %d: Add(%d, %d) is %d, Move %d", what, round, id, n, a, m)
					}
				}
			}
			for _, proto := range farNumbers() {
				if id := x.Root(proto); id != 0 {
					t.Errorf("%s, round %d: Root(%d) is %d", what, round, proto, id)
				}
			}
		}
	}
}

// P11.4: a Forest that no call made takes nothing of those that were made, nor they of it.
func TestNoForestBesideOne(t *testing.T) {
	var none shape.Forest
	w := newTwin(9)
	w.grow(t, w.root(t, 0), 5)
	none.Root(7)
	w.hold(t)
	if none.Len() != 0 {
		t.Error("it has what another has")
	}
	holdNone(t, &none, 1)
	w.root(t, 7)
	w.hold(t)
}
