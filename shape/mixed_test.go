package shape_test

import (
	"slices"
	"testing"
)

// P11.5: all rows of five deeds out of eight, all asked behind each, with much and with little room.
func TestAllShortRows(t *testing.T) {
	deeds := []func(w *twin){
		func(w *twin) { w.root(t, 0) },
		func(w *twin) { w.root(t, 1) },
		func(w *twin) { w.add(t, 1, 0) },
		func(w *twin) { w.add(t, 1, 1) },
		func(w *twin) { w.add(t, 2, 0) },
		func(w *twin) { w.add(t, len(w.list), 1) },
		func(w *twin) { w.move(t, len(w.list), 1) },
		func(w *twin) { w.move(t, 2, 0) },
	}
	const long = 5
	rows := 1
	for range long {
		rows *= len(deeds)
	}
	for _, most := range []int{4, maxShapes} {
		for row := range rows {
			w := newTwin(most)
			for i, r := 0, row; i < long; i, r = i+1, r/len(deeds) {
				deeds[r%len(deeds)](w)
			}
			w.hold(t)
			if t.Failed() {
				t.Fatalf("row %d, room for %d", row, most)
			}
		}
	}
}

// dice are numbers that look mixed, the same ones each time.
type dice uint64

func (d *dice) below(n int) int {
	*d = *d*6364136223846793005 + 1442695040888963407
	return int(uint64(*d) >> 33 % uint64(n))
}

// deed does one thing to a Forest. Of twenty numbers one is no shape's, so that most deeds come to something.
func (d *dice) deed(t *testing.T, w *twin, names, protos int) {
	id := 1 + d.below(len(w.list)+1)
	if d.below(20) == 0 {
		none := noShapes(len(w.list))
		id = none[d.below(len(none))]
	}
	switch d.below(8) {
	case 0:
		w.root(t, d.below(protos+1)-1)
	case 1, 2:
		w.move(t, id, d.below(protos+1)-1)
	default:
		w.add(t, id, d.below(names)-names/2)
	}
}

// P11.5: mixed rows over few and many names and prototypes, till there is no room and on.
func TestMixed(t *testing.T) {
	for seed := range 60 {
		d := dice(seed)
		w := newTwin([]int{0, 1, 5, 20, 60, maxShapes}[seed%6])
		for i := range 300 {
			d.deed(t, w, 2+seed%17, 1+seed%5)
			if i%6 == 0 {
				w.hold(t)
			}
		}
		w.hold(t)
		w.holdOnce(t)
		if t.Failed() {
			t.Fatalf("seed %d", seed)
		}
	}
}

// holdOnce asks the Forest alone: no two shapes have one prototype and the same names, and all names lead to them again.
func (w *twin) holdOnce(t *testing.T) {
	t.Helper()
	for id := 1; id <= w.x.Len(); id++ {
		p, _ := w.x.Proto(id)
		at := w.x.Root(p)
		for _, name := range w.x.Names(id) {
			at = w.x.Add(at, name)
		}
		if at != id {
			t.Errorf("the names of %d lead to %d", id, at)
		}
		for other := 1; other < id; other++ {
			if q, _ := w.x.Proto(other); p == q && slices.Equal(w.x.Names(id), w.x.Names(other)) {
				t.Errorf("%d and %d are one", other, id)
			}
		}
	}
	w.isLong(t)
}

// P11.5: a list that Names gave is the caller's: changed, or with more behind it, it changes no shape.
func TestNamesAreTheCallers(t *testing.T) {
	w := newTwin(maxShapes)
	w.grow(t, w.root(t, 0), 5, 6, 7, 8, 9)
	var kept [][]int
	for id := range w.list {
		kept = append(kept, w.x.Names(id+1))
	}
	for id := range w.list {
		got := w.x.Names(id + 1)
		for i := range got {
			got[i] = -1
		}
		slices.Sort(append(got, 1, 2, 3))
		w.hold(t)
		w.move(t, id+1, 2)
		w.add(t, id+1, -1)
		w.hold(t)
	}
	for i, names := range kept {
		if !slices.Equal(names, w.list[i].names) {
			t.Errorf("what Names(%d) gave is %v now", i+1, names)
		}
	}
	a, b := w.x.Names(6), w.x.Names(6)
	a[0] = 99
	if b[0] != 5 {
		t.Error("two lists share memory")
	}
}

// P11.5: several Forests side by side: what is done to one does not show in another.
func TestSideBySide(t *testing.T) {
	d := dice(7)
	var all []*twin
	for i := range 5 {
		all = append(all, newTwin(10+30*i))
	}
	for i := range 800 {
		d.deed(t, all[d.below(len(all))], 6, 4)
		if i%4 > 0 {
			continue
		}
		for _, w := range all {
			w.hold(t)
		}
	}
	if slices.EqualFunc(all[3].list, all[4].list, func(a, b plain) bool { return a.proto == b.proto && slices.Equal(a.names, b.names) }) {
		t.Error("the test's Forests are too much alike")
	}
}

// P11.5: two Forests of which the same is asked give the same numbers.
func TestSameRowSameNumbers(t *testing.T) {
	one, other := newTwin(80), newTwin(80)
	d, e := dice(3), dice(3)
	for range 500 {
		d.deed(t, one, 9, 5)
		e.deed(t, other, 9, 5)
	}
	for id := 1; id <= 80; id++ {
		if !slices.Equal(one.x.Names(id), other.x.Names(id)) || one.x.Parent(id) != other.x.Parent(id) {
			t.Errorf("shape %d is %v and %v", id, one.x.Names(id), other.x.Names(id))
		}
	}
	if one.x.Len() != 80 || other.x.Len() != 80 {
		t.Error("Len", one.x.Len(), other.x.Len())
	}
}
