package site

import (
	"testing"

	"proteus/api"
	"proteus/heap"
)

// P17.1, P17.2: by a hit it is the entry that says what is done: one that is false, which no call makes, shows that the heap is not asked for the name.
func TestHitsDoWhatEntriesSay(t *testing.T) {
	h := heap.New(api.Limits{Objects: 3, Props: 4}, 30)
	n := func(i int) api.Value { return api.Value{Kind: api.Int, N: i} }
	for o := 1; o <= 3; o++ {
		h.Make()
		h.Set(o, "a", n(10*o))
		h.Set(o, "b", n(10*o+1))
	}
	shape := h.Shape(1)
	x := New([]int{7})
	for i, e := range []Entry{
		{Slot: 1}, {Holder: 2, Slot: 1}, {Holder: 3}, {Holder: -1}, {Holder: 3, Deps: []Dep{{Obj: 3, Epoch: h.Epoch(3) - 1}}},
	} {
		e.Shape = shape
		x.in.functions[0].put(i, &cell{use: use{name: "a"}, fixed: true, entries: []kept{{e, *h}}})
		want := []api.Value{n(11), n(21), n(30), {}, n(10)}[i]
		if v := x.Get(h, 0, i, 1, "a"); v != want {
			t.Errorf("by %v it gets %v, not %v", e, v, want)
		}
	}
	to := h.Next(shape, "c")
	for i, e := range []Entry{{Slot: 1}, {To: to}} {
		e.Shape = shape
		x.in.functions[0].put(5+i, &cell{use: use{"a", true}, fixed: true, entries: []kept{{e, *h}}})
		if e := x.Set(h, 0, 5+i, 1, "a", n(7+i)); e != api.OK {
			t.Error(e)
		}
	}
	if got, want := h.Dump(), "#1 #0 a:10 b:7 c:8\n#2 #0 a:20 b:21\n#3 #0 a:30 b:31\n"; got != want {
		t.Errorf("it is\n%s\nnot\n%s", got, want)
	}
	if hits, misses := x.Counts(); hits != 6 || misses != 1 {
		t.Error(hits, misses)
	}
}

// The chapter's ways: a list grows up to a bound, whatever it is of.
func TestLonger(t *testing.T) {
	var words []string
	fits := true
	for i := range 3 {
		words, fits = longer(words, "w", 3)
		if !fits || len(words) != i+1 {
			t.Error(words, fits)
		}
	}
	if l, fits := longer(words, "w", 3); l != nil || fits {
		t.Error(l, fits)
	}
	if l, fits := longer([]int{}, 1, 0); l != nil || fits {
		t.Error(l, fits)
	}
}

// What is kept is what is needed: a site that nothing has come to, or that all are Mega with, has no cell.
func TestCells(t *testing.T) {
	h := heap.New(api.Limits{Objects: 1, Props: 1}, 9)
	h.Make()
	x := New([]int{1 << 40, 3})
	x.State(0, 7)
	x.Name(0, 7)
	x.Get(h, 0, 7, 2, "a")
	x.Set(h, 0, 7, 0, "a", api.Value{})
	if n := len(x.in.functions[0].cells); n != 0 {
		t.Error("cells of sites that nothing has come to:", n)
	}
	for s := range 3 {
		x.Get(h, 0, s, 1, "a")
		x.Get(h, 1, s, 1, "a")
	}
	x.Flush(0)
	x.Mega(1)
	x.Get(h, 1, 0, 1, "a")
	if a, b := len(x.in.functions[0].cells), len(x.in.functions[1].cells); a != 0 || b != 0 {
		t.Error("cells behind Flush and Mega:", a, b)
	}
}
