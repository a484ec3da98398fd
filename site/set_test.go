package site_test

import (
	"strconv"
	"testing"

	"proteus/api"
	"proteus/heap"
	"proteus/site"
)

// P17.2: a property that comes, and one that is there.
func TestComesAndIsThere(t *testing.T) {
	w := roomy(t, 6, 3)
	for o := 1; o <= 4; o++ {
		w.plain(t, o, "a")
	}
	was := w.h.Shape(1)
	w.set(t, 0, 1, 1, "x", integer(1))
	come := site.Entry{Shape: was, To: w.h.Shape(1)}
	w.is(t, 0, 1, site.Mono, come)
	w.named(t, 0, 1, "x", true, true)
	w.counts(t, 0, 1)
	for o := 2; o <= 3; o++ {
		w.set(t, 0, 1, o, "x", integer(o))
		if w.h.Shape(o) != w.h.Shape(1) || w.h.Get(o, "x") != integer(o) || w.h.Count(o) != 2 {
			t.Error(o, "is", w.h.Dump())
		}
		w.is(t, 0, 1, site.Mono, come)
		w.counts(t, o-1, 1)
	}
	w.set(t, 0, 1, 1, "x", integer(11))
	there := site.Entry{Shape: w.h.Shape(1), Slot: 1}
	w.is(t, 0, 1, site.Poly, come, there)
	w.counts(t, 2, 2)
	w.set(t, 0, 1, 2, "x", integer(12))
	w.set(t, 0, 1, 4, "x", integer(13))
	w.set(t, 0, 1, 4, "x", integer(14))
	w.is(t, 0, 1, site.Poly, come, there)
	w.counts(t, 5, 2)
	for o, want := range map[int]int{1: 11, 2: 12, 3: 3, 4: 14} {
		if w.h.Get(o, "x") != integer(want) || w.h.Get(o, "a") != integer(100*o) {
			t.Error(o, w.h.Dump())
		}
	}
	w.set(t, 0, 2, 1, "a", integer(0))
	w.is(t, 0, 2, site.Mono, site.Entry{Shape: w.h.Shape(1)})
	w.hold(t)
}

// P17.2: each slot of an object, set where it is there and where it comes.
func TestEachSlot(t *testing.T) {
	w := roomy(t, 3, 40)
	for o := 1; o <= 2; o++ {
		for i := range maxSlots {
			was := w.h.Shape(o)
			w.set(t, 0, i, o, "n"+strconv.Itoa(i), integer(i))
			w.is(t, 0, i, site.Mono, site.Entry{Shape: was, To: w.h.Shape(o)})
		}
		w.counts(t, (o-1)*maxSlots, maxSlots)
	}
	for o := 1; o <= 2; o++ {
		for i := range maxSlots {
			w.set(t, 0, 20+i, o, "n"+strconv.Itoa(i), integer(-i))
			w.is(t, 0, 20+i, site.Mono, site.Entry{Shape: w.h.Shape(1), Slot: i})
		}
	}
	w.counts(t, 2*maxSlots, 2*maxSlots)
	w.hold(t)
}

// P17.2: a prototype's property does not keep one's own from coming, whatever becomes of the prototype.
func TestSetUnderAPrototype(t *testing.T) {
	w := family(t, 1)
	w.set(t, 0, 0, 1, "e", integer(1))
	w.plain(t, 2, "more")
	w.drop(t, 3, "d")
	w.set(t, 0, 0, 5, "e", integer(2))
	w.counts(t, 1, 1)
	if w.h.Get(1, "e") != integer(1) || w.h.Get(5, "e") != integer(2) || w.h.Get(2, "e") != integer(400) {
		t.Error(w.h.Dump())
	}
	if _, l := w.x.State(0, 0); len(l) != 1 || l[0].To != w.h.Shape(5) || l[0].Deps != nil || l[0].Holder != 0 || l[0].Slot != 0 {
		t.Error(l)
	}
	w.hold(t)
}

// P17.2: one to four shapes at a site, and the fifth, with which it is Mega.
func TestShapesOfASet(t *testing.T) {
	w := roomy(t, 13, 2)
	for o := 1; o <= 10; o++ {
		w.plain(t, o, []string{"a", "b", "c", "d", "e"}[:o%5]...)
	}
	for i, o := range []int{1, 2, 3, 4} {
		w.set(t, 0, 0, o, "x", integer(o))
		kind, l := w.x.State(0, 0)
		if kind != min(i+1, site.Poly) || len(l) != i+1 || l[i].To != w.h.Shape(o) {
			t.Error(kind, l)
		}
	}
	w.counts(t, 0, 4)
	for _, o := range []int{6, 7, 8, 9} {
		w.set(t, 0, 0, o, "x", integer(o))
	}
	w.counts(t, 4, 4)
	w.named(t, 0, 0, "x", true, true)
	w.set(t, 0, 0, 5, "x", integer(5))
	w.is(t, 0, 0, site.Mega)
	w.named(t, 0, 0, "", false, false)
	for o := 1; o <= 13; o++ {
		w.set(t, 0, 0, o, "x", integer(-o))
		w.get(t, 0, 0, o, "x")
		w.is(t, 0, 0, site.Mega)
	}
	w.counts(t, 4, 5+26)
	w.hold(t)
}

// P17.2: a set that is refused is a miss without an entry, and fixes the site, where the object is of a shape.
func TestRefusedSet(t *testing.T) {
	for _, shapes := range []int{0, 20} {
		w := newTwin(api.Limits{Objects: 3, Props: 2}, shapes, 2)
		for range 3 {
			w.both(t, func(h *heap.Heap) any { o, _ := h.Make(); return o })
		}
		w.plain(t, 1, "a", "b")
		w.plain(t, 2, "a")
		for i := range 2 {
			if e := w.set(t, 0, 0, 1, "x", integer(1)); e != api.LimProps {
				t.Error(e)
			}
			w.is(t, 0, 0, site.Fresh)
			w.named(t, 0, 0, []string{"", "x"}[min(shapes, 1)], shapes > 0, shapes > 0)
			w.counts(t, 0, i+1)
		}
		if e := w.set(t, 0, 0, 4, "x", integer(1)); e != api.ErrNone {
			t.Error(e)
		}
		w.set(t, 0, 0, 2, "x", integer(1))
		w.set(t, 0, 0, 1, "x", integer(1))
		w.set(t, 0, 0, 2, "x", integer(2))
		w.set(t, 0, 0, 2, "x", integer(3))
		w.counts(t, min(shapes, 1), 7-min(shapes, 1))
		w.hold(t)
	}
}

// P17.2: a set by which an object becomes a dictionary fixes the site, and makes no entry: for want of slots, and for want of shapes.
func TestBecomesADictionary(t *testing.T) {
	for _, x := range []struct{ shapes, props int }{{150, maxSlots}, {4, 3}, {1, 0}} {
		w := newTwin(api.Limits{Objects: 3, Props: 32}, x.shapes, 2)
		for o := 1; o <= 3; o++ {
			w.both(t, func(h *heap.Heap) any { o, _ := h.Make(); return o })
			for i := range x.props {
				w.plain(t, o, "n"+strconv.Itoa(i))
			}
		}
		for o := 1; o <= 3; o++ {
			if w.h.Shape(o) == 0 {
				t.Error("the test's object is a dictionary already")
			}
			w.set(t, 0, 0, o, "x", integer(o))
			if w.h.Shape(o) != 0 || w.h.Get(o, "x") != integer(o) {
				t.Error(w.h.Dump())
			}
			w.is(t, 0, 0, site.Fresh)
			w.named(t, 0, 0, "x", true, true)
			w.set(t, 0, 0, o, "x", integer(-o))
			w.set(t, 0, 1, o, "y", integer(o))
			w.is(t, 0, 1, site.Fresh)
			w.named(t, 0, 1, "", false, false)
			w.counts(t, 0, 3*o)
		}
		w.hold(t)
	}
}

// P17.2: dictionaries neither fix a site that sets, nor have entries.
func TestSetOfADictionary(t *testing.T) {
	w := family(t, 1)
	w.plain(t, 6, "a")
	w.drop(t, 6, "a")
	for i := range 3 {
		w.set(t, 0, 0, 6, "n"+strconv.Itoa(i), integer(i))
		w.is(t, 0, 0, site.Fresh)
		w.named(t, 0, 0, "", false, false)
	}
	w.set(t, 0, 0, 1, "q", integer(1))
	w.set(t, 0, 0, 6, "q", integer(2))
	w.counts(t, 0, 5)
	if _, l := w.x.State(0, 0); len(l) != 1 {
		t.Error(l)
	}
	w.hold(t)
}

// P17.2: a site that is fixed to set plays no part where one gets, or for another name; then it goes on.
func TestSetAtAnother(t *testing.T) {
	w := family(t, 1)
	w.set(t, 0, 0, 1, "q", integer(1))
	_, was := w.x.State(0, 0)
	w.get(t, 0, 0, 1, "q")
	w.get(t, 0, 0, 6, "q")
	w.set(t, 0, 0, 6, "r", integer(2))
	w.set(t, 0, 0, 5, "a", integer(3))
	w.is(t, 0, 0, site.Mono, was...)
	w.named(t, 0, 0, "q", true, true)
	w.counts(t, 0, 5)
	w.set(t, 0, 0, 5, "q", integer(4))
	w.counts(t, 1, 5)
	w.hold(t)
}

// P17.2: any value is set, by a miss and by hits, where the property comes and where it is there.
func TestAnyValue(t *testing.T) {
	w := roomy(t, 20, 3)
	values := []api.Value{{}, {Kind: api.Bool, N: 5}, {Kind: api.Str, S: "s\x00"}, {Kind: api.Obj}, {Kind: api.Obj, N: 77}, {Kind: -1, N: -1, S: "q"}, {Kind: 9}}
	for i, v := range values {
		for _, o := range []int{1 + 2*i, 2 + 2*i, 1} {
			w.set(t, 0, 0, o, "x", v)
			if got := w.get(t, 0, 1, o, "x"); got != v {
				t.Errorf("it is %v, not %v", got, v)
			}
		}
	}
	w.hold(t)
	w.counts(t, 2*3*len(values)-3, 3)
}
