package site_test

import (
	"testing"

	"proteus/api"
	"proteus/heap"
	"proteus/site"
)

// family has object 1 of a chain of four, each with properties; object 5 is of the shape of 1; object 6 stands alone.
func family(t *testing.T, sites ...int) *twin {
	t.Helper()
	w := roomy(t, 6, sites...)
	w.plain(t, 4, "e", "f", "d", "a")
	w.plain(t, 3, "c", "d")
	w.plain(t, 2, "x", "c")
	w.chain(t, 1, 2, 3, 4)
	w.under(t, 5, 2)
	w.plain(t, 1, "a", "b")
	w.plain(t, 5, "a", "b")
	if w.h.Shape(1) != w.h.Shape(5) || w.h.Shape(1) == 0 {
		t.Fatal("the test's objects are of", w.h.Shape(1), w.h.Shape(5))
	}
	return w
}

func deps(h *heap.Heap, l ...int) []site.Dep {
	var out []site.Dep
	for _, o := range l {
		out = append(out, site.Dep{Obj: o, Epoch: h.Epoch(o)})
	}
	return out
}

// P17.1: the chapter's example.
func TestExample(t *testing.T) {
	w := roomy(t, 2, 1)
	w.plain(t, 1, "x")
	w.plain(t, 2, "x")
	if v := w.get(t, 0, 0, 1, "x"); v != integer(100) {
		t.Error(v)
	}
	w.counts(t, 0, 1)
	if v := w.get(t, 0, 0, 2, "x"); v != integer(200) {
		t.Error(v)
	}
	w.counts(t, 1, 1)
}

// P17.1: a property of its own, one of the first, second and third object of its chain, and one that is nowhere.
func TestHolders(t *testing.T) {
	for _, x := range []struct {
		name         string
		holder, slot int
		behind       []int
		v, other     api.Value
	}{
		{"a", 0, 0, nil, integer(100), integer(500)},
		{"b", 0, 1, nil, integer(101), integer(501)},
		{"x", 2, 0, []int{2}, integer(200), integer(200)},
		{"c", 2, 1, []int{2}, integer(201), integer(201)},
		{"d", 3, 1, []int{2, 3}, integer(301), integer(301)},
		{"e", 4, 0, []int{2, 3, 4}, integer(400), integer(400)},
		{"f", 4, 1, []int{2, 3, 4}, integer(401), integer(401)},
		{"z", -1, 0, []int{2, 3, 4}, api.Value{}, api.Value{}},
		{"", -1, 0, []int{2, 3, 4}, api.Value{}, api.Value{}},
		{"a b", -1, 0, []int{2, 3, 4}, api.Value{}, api.Value{}},
	} {
		w := family(t, 0, 3)
		want := site.Entry{Shape: w.h.Shape(1), Holder: x.holder, Slot: x.slot, Deps: deps(w.h, x.behind...)}
		if v := w.get(t, 1, 2, 1, x.name); v != x.v {
			t.Errorf("%q is %v", x.name, v)
		}
		w.is(t, 1, 2, site.Mono, want)
		w.counts(t, 0, 1)
		w.named(t, 1, 2, x.name, false, true)
		for i, o := range []int{1, 5, 5, 1} {
			v := x.v
			if o == 5 {
				v = x.other
			}
			if got := w.get(t, 1, 2, o, x.name); got != v {
				t.Errorf("%q of %d is %v", x.name, o, got)
			}
			w.counts(t, i+1, 1)
		}
		w.is(t, 1, 2, site.Mono, want)
		w.is(t, 1, 1, site.Fresh)
		w.hold(t)
	}
}

// P17.1: nothing on the chain, where there is none behind the object.
func TestNowhereAtAll(t *testing.T) {
	w := roomy(t, 2, 1)
	for i := range 3 {
		w.get(t, 0, 0, 1+i%2, "q")
		w.is(t, 0, 0, site.Mono, site.Entry{Shape: 1, Holder: -1})
		w.counts(t, i, 1)
	}
	w.plain(t, 1, "q")
	w.get(t, 0, 0, 1, "q")
	w.is(t, 0, 0, site.Poly, site.Entry{Shape: 1, Holder: -1}, site.Entry{Shape: 2})
	w.get(t, 0, 0, 2, "q")
	w.counts(t, 3, 2)
	w.hold(t)
}

// P17.1: another value is no change: it is got by a hit.
func TestValuesOnly(t *testing.T) {
	w := family(t, 4)
	for s, name := range []string{"a", "c", "d", "e"} {
		w.get(t, 0, s, 1, name)
	}
	for o, names := range map[int][]string{1: {"a", "b"}, 2: {"x", "c"}, 3: {"c", "d"}, 4: {"e", "f", "d", "a"}} {
		for i, name := range names {
			w.both(t, func(h *heap.Heap) any { return h.Set(o, name, integer(-10*o-i)) })
		}
	}
	for s, want := range []int{-10, -21, -31, -40} {
		if v := w.get(t, 0, s, 1, []string{"a", "c", "d", "e"}[s]); v != integer(want) {
			t.Errorf("site %d gets %v", s, v)
		}
	}
	w.counts(t, 4, 4)
	w.hold(t)
}

// P17.1: one to four shapes at a site, and the fifth, with which it is Mega.
func TestShapesOfAGet(t *testing.T) {
	w := roomy(t, 7, 2)
	var want []site.Entry
	for o := 1; o <= 5; o++ {
		w.plain(t, o, []string{"a", "b", "c", "d", "e", "f"}[:o]...)
		w.plain(t, o, "x")
	}
	for o := 1; o <= 4; o++ {
		w.get(t, 0, 1, o, "x")
		want = append(want, site.Entry{Shape: w.h.Shape(o), Slot: o})
		w.is(t, 0, 1, min(o, site.Poly), want...)
		for again := 1; again <= o; again++ {
			w.get(t, 0, 1, again, "x")
		}
		w.is(t, 0, 1, min(o, site.Poly), want...)
		w.named(t, 0, 1, "x", false, true)
	}
	w.counts(t, 1+2+3+4, 4)
	if v := w.get(t, 0, 1, 5, "x"); v != integer(500) {
		t.Error(v)
	}
	w.is(t, 0, 1, site.Mega)
	w.named(t, 0, 1, "", false, false)
	w.counts(t, 10, 5)
	for o := 1; o <= 7; o++ {
		w.get(t, 0, 1, o, "x")
		w.set(t, 0, 1, o, "x", integer(o))
		w.get(t, 0, 1, o, "a")
		w.is(t, 0, 1, site.Mega)
		w.named(t, 0, 1, "", false, false)
	}
	w.counts(t, 10, 5+3*7)
	w.hold(t)
}

// P17.1: a site that is Mega keeps nothing, whatever it is asked for, be it a name without bytes.
func TestMegaKeepsNothing(t *testing.T) {
	w := roomy(t, 6, 2, 1)
	for o := 1; o <= 5; o++ {
		w.plain(t, o, letter(o))
		w.get(t, 0, 1, o, "x")
		w.set(t, 0, 0, o, "y", integer(o))
	}
	w.mega(t, 1)
	w.counts(t, 0, 10)
	for range 3 {
		for _, name := range []string{"", "x", "y"} {
			w.get(t, 0, 0, 6, name)
			w.get(t, 0, 1, 6, name)
			w.get(t, 1, 0, 6, name)
			w.set(t, 0, 0, 6, name, integer(1))
			w.set(t, 0, 1, 6, name, integer(2))
			w.set(t, 1, 0, 6, name, integer(3))
		}
	}
	w.counts(t, 0, 10+3*3*6)
	for s := range 2 {
		w.is(t, 0, s, site.Mega)
		w.named(t, 0, s, "", false, false)
	}
	w.hold(t)
}

// P17.1: what changes at a prototype, ahead of the next get: the entry does not hold, and the new one stands in its place.
func TestNoLongerHolds(t *testing.T) {
	for _, x := range []struct {
		what string
		deed func(w *twin)
		want func(w *twin) site.Entry
	}{
		{"a property comes ahead", func(w *twin) { w.plain(t, 2, "e") }, func(w *twin) site.Entry { return site.Entry{Holder: 2, Slot: 2, Deps: deps(w.h, 2)} }},
		{"another comes ahead", func(w *twin) { w.plain(t, 2, "more") }, func(w *twin) site.Entry { return site.Entry{Holder: 4, Deps: deps(w.h, 2, 3, 4)} }},
		{"another comes between", func(w *twin) { w.plain(t, 3, "more") }, func(w *twin) site.Entry { return site.Entry{Holder: 4, Deps: deps(w.h, 2, 3, 4)} }},
		{"another comes at the holder", func(w *twin) { w.plain(t, 4, "more") }, func(w *twin) site.Entry { return site.Entry{Holder: 4, Deps: deps(w.h, 2, 3, 4)} }},
		{"a prototype is turned away", func(w *twin) { w.under(t, 3, 0) }, func(w *twin) site.Entry { return site.Entry{Holder: -1, Deps: deps(w.h, 2, 3)} }},
		{"a prototype is turned to another", func(w *twin) { w.plain(t, 6, "n", "m", "e"); w.under(t, 2, 6) }, func(w *twin) site.Entry { return site.Entry{Holder: 6, Slot: 2, Deps: deps(w.h, 2, 6)} }},
		{"the holder has a prototype then", func(w *twin) { w.under(t, 4, 6) }, func(w *twin) site.Entry { return site.Entry{Holder: 4, Deps: deps(w.h, 2, 3, 4)} }},
		{"a prototype is turned where it is", func(w *twin) { w.under(t, 3, 4) }, func(w *twin) site.Entry { return site.Entry{Holder: 4, Deps: deps(w.h, 2, 3, 4)} }},
	} {
		w := family(t, 1)
		w.under(t, 6, 5)
		w.get(t, 0, 0, 6, "e")
		w.under(t, 6, 0)
		w.get(t, 0, 0, 1, "e")
		first, other := w.h.Shape(1), w.h.Shape(6)
		_, was := w.x.State(0, 0)
		x.deed(w)
		w.get(t, 0, 0, 5, "e")
		want := x.want(w)
		want.Shape = first
		w.is(t, 0, 0, site.Poly, was[0], want)
		w.counts(t, 0, 3)
		w.get(t, 0, 0, 1, "e")
		w.get(t, 0, 0, 5, "e")
		w.is(t, 0, 0, site.Poly, was[0], want)
		w.counts(t, 2, 3)
		if other == first {
			t.Error("the test's objects are of one shape")
		}
		w.hold(t)
	}
}

// P17.1: as many objects as an entry hangs on make it not hold, each alone; one behind the holder does not.
func TestWhichChangesCount(t *testing.T) {
	for name, holder := range map[string]int{"a": 1, "c": 2, "d": 3, "e": 4, "z": 9} {
		for o := 1; o <= 4; o++ {
			w := family(t, 1)
			w.get(t, 0, 0, 1, name)
			w.plain(t, o, "more")
			hits := 1
			if o > 1 && o <= holder {
				hits = 0
			}
			// The first object's own shape is another one, when it has grown; the fifth is as it was.
			w.get(t, 0, 0, 5, name)
			w.counts(t, hits, 2-hits)
			w.hold(t)
		}
	}
}

// P17.1: an entry that does not hold stays, in its place, as long as none can be made instead.
func TestStaysWhereNoneIsMade(t *testing.T) {
	w := family(t, 1)
	w.get(t, 0, 0, 1, "e")
	_, was := w.x.State(0, 0)
	w.drop(t, 3, "d")
	for i := range 3 {
		w.get(t, 0, 0, 1+i%2*4, "e")
		w.is(t, 0, 0, site.Mono, was...)
		w.counts(t, 0, 2+i)
	}
	w.under(t, 2, 4)
	w.get(t, 0, 0, 1, "e")
	w.is(t, 0, 0, site.Mono, site.Entry{Shape: w.h.Shape(1), Holder: 4, Deps: deps(w.h, 2, 4)})
	w.get(t, 0, 0, 1, "e")
	w.counts(t, 1, 5)
	w.hold(t)
}

// P17.1: what is turned and turned back has changed.
func TestThereAndBack(t *testing.T) {
	w := family(t, 1)
	w.get(t, 0, 0, 1, "d")
	w.under(t, 2, 6)
	w.under(t, 2, 3)
	w.get(t, 0, 0, 1, "d")
	w.counts(t, 0, 2)
	w.is(t, 0, 0, site.Mono, site.Entry{Shape: w.h.Shape(1), Holder: 3, Slot: 1, Deps: deps(w.h, 2, 3)})
}

// P17.1: an object that is a dictionary neither fixes a site nor has an entry; others do beside it.
func TestDictionaryItself(t *testing.T) {
	w := family(t, 2)
	w.drop(t, 6, "none")
	w.plain(t, 6, "a", "b")
	w.drop(t, 6, "b")
	for i := range 3 {
		w.get(t, 0, 0, 6, "a")
		w.is(t, 0, 0, site.Fresh)
		w.named(t, 0, 0, "", false, false)
		w.counts(t, 0, i+1)
	}
	w.get(t, 0, 0, 1, "b")
	w.get(t, 0, 0, 6, "b")
	w.get(t, 0, 0, 6, "a")
	w.get(t, 0, 0, 5, "b")
	w.is(t, 0, 0, site.Mono, site.Entry{Shape: w.h.Shape(1), Slot: 1})
	w.named(t, 0, 0, "b", false, true)
	w.counts(t, 1, 6)
	w.hold(t)
}

// P17.1: a dictionary on the chain, ahead of the holder, as the holder, and behind it.
func TestDictionaryOnTheChain(t *testing.T) {
	for loose := 2; loose <= 4; loose++ {
		for name, holder := range map[string]int{"a": 1, "x": 2, "d": 3, "e": 4, "z": 9} {
			w := family(t, 1)
			w.plain(t, loose, "gone")
			w.drop(t, loose, "gone")
			w.get(t, 0, 0, 1, name)
			w.get(t, 0, 0, 5, name)
			w.named(t, 0, 0, name, false, true)
			if loose <= holder {
				w.is(t, 0, 0, site.Fresh)
				w.counts(t, 0, 2)
			} else {
				w.counts(t, 1, 1)
			}
			w.hold(t)
		}
	}
}

// P17.1: a site that is fixed to one name plays no part for another, nor where one sets; then it goes on.
func TestGetAtAnother(t *testing.T) {
	w := family(t, 2)
	w.get(t, 0, 0, 1, "a")
	_, was := w.x.State(0, 0)
	w.get(t, 0, 0, 1, "b")
	w.get(t, 0, 0, 6, "b")
	w.get(t, 0, 0, 1, "")
	w.set(t, 0, 0, 1, "a", integer(7))
	w.set(t, 0, 0, 6, "a", integer(8))
	w.is(t, 0, 0, site.Mono, was...)
	w.named(t, 0, 0, "a", false, true)
	w.counts(t, 0, 6)
	if v := w.get(t, 0, 0, 1, "a"); v != integer(7) {
		t.Error(v)
	}
	if v := w.get(t, 0, 0, 5, "a"); v != integer(500) {
		t.Error(v)
	}
	w.counts(t, 2, 6)
	w.get(t, 0, 0, 6, "a")
	w.is(t, 0, 0, site.Poly, was[0], site.Entry{Shape: w.h.Shape(6)})
	w.hold(t)
}

// P17.1: sites are each for themselves, of one function and of several.
func TestSitesApart(t *testing.T) {
	w := family(t, 2, 2)
	w.get(t, 0, 1, 1, "a")
	w.get(t, 1, 0, 1, "e")
	w.get(t, 1, 1, 6, "a")
	shape := w.h.Shape(1)
	w.is(t, 0, 0, site.Fresh)
	w.is(t, 0, 1, site.Mono, site.Entry{Shape: shape})
	w.is(t, 1, 0, site.Mono, site.Entry{Shape: shape, Holder: 4, Deps: deps(w.h, 2, 3, 4)})
	w.is(t, 1, 1, site.Mono, site.Entry{Shape: w.h.Shape(6), Holder: -1})
	w.counts(t, 0, 3)
	w.hold(t)
}

// P17.1: a chain as long as there are objects.
func TestLongChain(t *testing.T) {
	w := roomy(t, 140, 2)
	for o := 139; o >= 1; o-- {
		w.under(t, o, o+1)
	}
	for range 3 {
		w.get(t, 0, 0, 1, "end")
		w.get(t, 0, 1, 1, "none")
	}
	_, l := w.x.State(0, 0)
	if len(l) != 1 || len(l[0].Deps) != 139 || l[0].Holder != -1 {
		t.Error(l)
	}
	w.counts(t, 4, 2)
	w.plain(t, 140, "end")
	for range 3 {
		if v := w.get(t, 0, 0, 1, "end"); v != integer(14000) {
			t.Error(v)
		}
	}
	if _, l := w.x.State(0, 0); l[0].Holder != 140 || len(l[0].Deps) != 139 {
		t.Error(l)
	}
	w.counts(t, 6, 3)
	w.hold(t)
}
