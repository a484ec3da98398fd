package site_test

import (
	"math"
	"strings"
	"testing"

	"proteus/api"
	"proteus/heap"
	"proteus/site"
)

// noObjects are numbers that lead to none of n objects.
func noObjects(n int) []int {
	return []int{0, -1, -n, n + 1, n + 2, 201, math.MaxInt, math.MinInt, 1<<32 + 1}
}

// oddNames are names that no source has.
func oddNames() []string {
	return []string{"", " ", ":", "a b", "\x00", "\xff", "\n", "é", "__proto__", strings.Repeat("a", 5000)}
}

// P17.1, P17.2: objects that there are not neither fix a site nor have entries.
func TestNoObjects(t *testing.T) {
	w := family(t, 2)
	n := 0
	for range 2 {
		for _, o := range noObjects(6) {
			if v := w.get(t, 0, 0, o, "a"); v != (api.Value{}) {
				t.Error(o, v)
			}
			if e := w.set(t, 0, 1, o, "a", integer(1)); e != api.ErrNone {
				t.Error(o, e)
			}
			n += 2
			w.counts(t, 0, n)
		}
		w.hold(t)
		w.get(t, 0, 0, 6, "a")
		w.set(t, 0, 1, 6, "a", integer(1))
		n += 2
	}
}

// P17.1, P17.2: names that are no property's, and that no source has, are names.
func TestOddNames(t *testing.T) {
	for _, name := range oddNames() {
		w := family(t, 4)
		for i := range 3 {
			w.get(t, 0, 0, 1, name)
			w.counts(t, i, 1)
		}
		w.set(t, 0, 1, 1, name, integer(1))
		w.set(t, 0, 1, 5, name, integer(2))
		w.set(t, 0, 1, 1, name, integer(3))
		w.set(t, 0, 1, 5, name, integer(4))
		w.get(t, 0, 0, 1, name)
		w.get(t, 0, 0, 5, name)
		w.named(t, 0, 0, name, false, true)
		w.named(t, 0, 1, name, true, true)
		w.counts(t, 5, 4)
		w.hold(t)
	}
}

// P17.3: nil Tables, and such as no call made: the heap alone answers, and nothing is counted.
func TestNoTable(t *testing.T) {
	for _, x := range []*site.Table{nil, {}, new(site.Table)} {
		w := family(t)
		for range 3 {
			for _, o := range append(noObjects(6), 1, 5, 6) {
				for _, name := range append(oddNames(), "a", "e", "q") {
					if a, b := x.Get(w.h, 0, 0, o, name), w.alone.Get(o, name); a != b {
						t.Errorf("Get of %q of %d is %v, not %v", name, o, a, b)
					}
				}
				if a, b := x.Set(w.h, 0, 0, o, "q", integer(o)), w.alone.Set(o, "q", integer(o)); a != b {
					t.Errorf("Set of %d is %v, not %v", o, a, b)
				}
			}
			w.sameHeaps(t)
			for _, f := range append(outside(1), 0) {
				x.Flush(f)
				x.Mega(f)
				for _, s := range append(outside(1), 0) {
					if kind, l := x.State(f, s); kind != site.Fresh || l != nil {
						t.Error("State", kind, l)
					}
					if name, sets, is := x.Name(f, s); name != "" || sets || is {
						t.Error("Name", name, sets, is)
					}
				}
			}
			if a, b := x.Counts(); a != 0 || b != 0 {
				t.Error("Counts", a, b)
			}
		}
	}
}

// P17.1, P17.2: nil heaps, and such as no call made: none of their objects fixes a site.
func TestNoHeap(t *testing.T) {
	for _, h := range []*heap.Heap{nil, {}} {
		for _, x := range []*site.Table{nil, {}, site.New(nil), site.New([]int{2})} {
			for _, o := range append(noObjects(0), 1, 2) {
				if v := x.Get(h, 0, 0, o, "a"); v != (api.Value{}) {
					t.Error("Get", v)
				}
				if e := x.Set(h, 0, 1, o, "a", integer(1)); e != h.Set(o, "a", integer(1)) || e != api.ErrNil {
					t.Error("Set", e)
				}
			}
			for s := range 2 {
				if kind, l := x.State(0, s); kind != site.Fresh || l != nil {
					t.Error("State", kind, l)
				}
				if _, _, is := x.Name(0, s); is {
					t.Error("a name is fixed")
				}
			}
		}
	}
	x := site.New([]int{1})
	x.Get(nil, 0, 0, 1, "a")
	x.Set(&heap.Heap{}, 0, 0, 1, "a", integer(1))
	if a, b := x.Counts(); a != 0 || b != 2 {
		t.Error("Counts", a, b)
	}
}

// P17.1: no heap, where a site has entries already.
func TestNoHeapThen(t *testing.T) {
	w := family(t, 2)
	w.get(t, 0, 0, 1, "e")
	w.set(t, 0, 1, 1, "q", integer(1))
	for _, h := range []*heap.Heap{nil, {}, heap.New(api.Limits{}, 9)} {
		if v := w.x.Get(h, 0, 0, 1, "e"); v != (api.Value{}) {
			t.Error(v)
		}
		if e := w.x.Set(h, 0, 1, 1, "q", integer(1)); e != h.Set(1, "q", integer(1)) || e == api.OK {
			t.Error(e)
		}
		w.m.misses += 2
		w.hold(t)
	}
	w.get(t, 0, 0, 5, "e")
	w.counts(t, 1, 8)
}

// P17.1, P17.2: a heap without shapes: all is missed, and sites stay fresh.
func TestNoShapes(t *testing.T) {
	for _, shapes := range []int{0, -1, math.MinInt} {
		w := newTwin(api.Limits{Objects: 4, Props: 4}, shapes, 3)
		for o := 1; o <= 4; o++ {
			w.both(t, func(h *heap.Heap) any { o, _ := h.Make(); return o })
		}
		w.chain(t, 1, 2, 3)
		for range 3 {
			for o := 1; o <= 4; o++ {
				w.set(t, 0, 0, o, "x", integer(o))
				w.get(t, 0, 1, o, "x")
				w.get(t, 0, 2, o, "y")
			}
		}
		for s := range 3 {
			w.is(t, 0, s, site.Fresh)
			w.named(t, 0, s, "", false, false)
		}
		w.counts(t, 0, 36)
		w.mega(t, 0)
	}
}

// P17.1, P17.4: a site that two heaps come to answers each by its own, though their shapes and objects have the same numbers.
func TestTwoHeaps(t *testing.T) {
	x := site.New([]int{4})
	var heaps, alone []*heap.Heap
	for i := range 2 {
		for _, l := range []*[]*heap.Heap{&heaps, &alone} {
			h := heap.New(api.Limits{Objects: 4, Props: 2 + i}, 30)
			for range 4 {
				h.Make()
			}
			for o := 1; o <= 3; o++ {
				for _, name := range []string{"a", "b", "a"}[i : i+2] {
					h.Set(o, name, integer(100*o+i))
				}
			}
			h.SetProto(4, 1+i)
			*l = append(*l, h)
		}
	}
	if heaps[0].Shape(1) != heaps[1].Shape(1) || heaps[0].Shape(4) != heaps[1].Shape(4) {
		t.Fatal("the test's objects are of other shapes")
	}
	for round := range 4 {
		for i, h := range heaps {
			for o := 1; o <= 4; o++ {
				for s, name := range []string{"a", "b"} {
					if a, b := x.Get(h, 0, s, o, name), alone[i].Get(o, name); a != b {
						t.Errorf("round %d: Get of %q of %d of heap %d is %v, not %v", round, name, o, i, a, b)
					}
				}
				for s, name := range []string{"a", "c"} {
					v := integer(round + o)
					if a, b := x.Set(h, 0, 2+s, o, name, v), alone[i].Set(o, name, v); a != b {
						t.Errorf("round %d: Set of %q of %d of heap %d is %v, not %v", round, name, o, i, a, b)
					}
				}
				if h.Dump() != alone[i].Dump() {
					t.Fatalf("heap %d is\n%s\nnot\n%s", i, h.Dump(), alone[i].Dump())
				}
			}
		}
	}
	if hits, _ := x.Counts(); hits == 0 {
		t.Error("nothing was hit")
	}
}

// P17.4: two Tables have nothing in common, at one heap or at two.
func TestTwoTables(t *testing.T) {
	w := family(t, 2)
	x := site.New([]int{2})
	w.get(t, 0, 0, 1, "e")
	if kind, _ := x.State(0, 0); kind != site.Fresh {
		t.Error(kind)
	}
	x.Get(w.h, 0, 0, 1, "b")
	x.Get(w.h, 0, 0, 5, "b")
	x.Set(w.h, 0, 1, 1, "e", w.h.Get(1, "e"))
	w.alone.Set(1, "e", w.alone.Get(1, "e"))
	x.Mega(0)
	if a, b := x.Counts(); a != 1 || b != 2 {
		t.Error(a, b)
	}
	w.hold(t)
	w.get(t, 0, 0, 1, "e")
	w.get(t, 0, 0, 5, "e")
	w.counts(t, 1, 2)
}
