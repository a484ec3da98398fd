package site_test

import (
	"math"
	"slices"
	"testing"

	"proteus/api"
	"proteus/heap"
	"proteus/site"
)

const (
	maxPoly  = 4
	maxSlots = 12
)

func integer(n int) api.Value { return api.Value{Kind: api.Int, N: n} }

// spot is a site of the model.
type spot struct {
	fixed, sets, mega bool
	name              string
	entries           []site.Entry
}

// model is the chapter's words, done on lists; what it asks of a heap are calls by names and chains.
type model struct {
	sites        []int
	spots        map[[2]int]*spot
	hits, misses int
}

func newModel(sites []int) *model {
	return &model{sites: slices.Clone(sites), spots: map[[2]int]*spot{}}
}

// at is a site; nil, if there is none.
func (m *model) at(f, s int) *spot {
	if f < 0 || f >= len(m.sites) || s < 0 || s >= m.sites[f] {
		return nil
	}
	if m.spots[[2]int{f, s}] == nil {
		m.spots[[2]int{f, s}] = &spot{}
	}
	return m.spots[[2]int{f, s}]
}

// slotIn is where an object's own properties have a name; -1, if it has none such.
func slotIn(h *heap.Heap, o int, name string) int {
	for i := range h.Count(o) {
		if key, _ := h.Key(o, i); key == name {
			return i
		}
	}
	return -1
}

// entryOf is what a get would have for an entry; false, if there is none to be made.
func entryOf(h *heap.Heap, o int, name string) (site.Entry, bool) {
	e := site.Entry{Shape: h.Shape(o), Holder: -1}
	for at := o; at != 0; at = h.Proto(at) {
		if h.Shape(at) == 0 {
			return site.Entry{}, false
		}
		if at != o {
			e.Deps = append(e.Deps, site.Dep{Obj: at, Epoch: h.Epoch(at)})
		}
		if i := slotIn(h, at, name); i >= 0 {
			e.Holder, e.Slot = at, i
			break
		}
	}
	if e.Holder == o {
		e.Holder = 0
	}
	return e, true
}

// plays asks whether a site plays a part at a use, which it may be fixed by.
func (p *spot) plays(shape int, sets bool, name string) bool {
	if p == nil || p.mega || shape == 0 {
		return false
	}
	if !p.fixed {
		p.fixed, p.sets, p.name = true, sets, name
	}
	return p.sets == sets && p.name == name
}

func (p *spot) find(shape int) int {
	return slices.IndexFunc(p.entries, func(e site.Entry) bool { return e.Shape == shape })
}

func (p *spot) keep(e site.Entry) {
	if i := p.find(e.Shape); i >= 0 {
		p.entries[i] = e
	} else {
		p.entries = append(p.entries, e)
	}
	if len(p.entries) > maxPoly {
		*p = spot{mega: true}
	}
}

func holds(h *heap.Heap, e site.Entry) bool {
	for _, d := range e.Deps {
		if h.Epoch(d.Obj) != d.Epoch {
			return false
		}
	}
	return true
}

// get is told ahead of a get, with a heap that is as it is then.
func (m *model) get(h *heap.Heap, f, s, o int, name string) {
	p := m.at(f, s)
	plays := p.plays(h.Shape(o), false, name)
	if plays {
		if i := p.find(h.Shape(o)); i >= 0 && holds(h, p.entries[i]) {
			m.hits++
			return
		}
	}
	m.misses++
	if e, is := entryOf(h, o, name); plays && is {
		p.keep(e)
	}
}

// set does a set to a heap.
func (m *model) set(h *heap.Heap, f, s, o int, name string, v api.Value) api.Errno {
	p := m.at(f, s)
	e := site.Entry{Shape: h.Shape(o)}
	plays := p.plays(e.Shape, true, name)
	slot := slotIn(h, o, name)
	err := h.Set(o, name, v)
	if plays && p.find(e.Shape) >= 0 {
		m.hits++
		return err
	}
	m.misses++
	if slot >= 0 {
		e.Slot = slot
	} else {
		e.To = h.Shape(o)
	}
	if plays && err == api.OK && h.Shape(o) > 0 {
		p.keep(e)
	}
	return err
}

func (m *model) flush(f int) {
	for k, p := range m.spots {
		if k[0] == f && !p.mega {
			*p = spot{}
		}
	}
}

// mega is for sites that are few.
func (m *model) mega(f int) {
	for s := 0; m.at(f, s) != nil; s++ {
		*m.at(f, s) = spot{mega: true}
	}
}

func (m *model) state(f, s int) (int, []site.Entry) {
	p := m.at(f, s)
	switch {
	case p == nil:
		return 0, nil
	case p.mega:
		return 3, nil
	case len(p.entries) > 1:
		return 2, p.entries
	}
	return len(p.entries), p.entries
}

func (m *model) name(f, s int) (string, bool, bool) {
	p := m.at(f, s)
	if p == nil || !p.fixed {
		return "", false, false
	}
	return p.name, p.sets, true
}

// twin is a Table with a heap, the model, and a heap to which the same is done without a Table.
type twin struct {
	x        *site.Table
	h, alone *heap.Heap
	m        *model
}

func newTwin(l api.Limits, shapes int, sites ...int) *twin {
	return &twin{site.New(sites), heap.New(l, shapes), heap.New(l, shapes), newModel(sites)}
}

// roomy is one with so many objects, and much room.
func roomy(t *testing.T, objects int, sites ...int) *twin {
	t.Helper()
	w := newTwin(api.Limits{Objects: 200, Props: 32}, 150, sites...)
	for range objects {
		w.both(t, func(h *heap.Heap) any { o, e := h.Make(); return [2]int{o, int(e)} })
	}
	return w
}

// both does one thing to both heaps, which must answer alike.
func (w *twin) both(t *testing.T, deed func(h *heap.Heap) any) {
	t.Helper()
	if a, b := deed(w.h), deed(w.alone); a != b {
		t.Fatalf("the heaps answer %v and %v", a, b)
	}
}

func (w *twin) plain(t *testing.T, o int, names ...string) {
	t.Helper()
	for i, name := range names {
		w.both(t, func(h *heap.Heap) any { return h.Set(o, name, integer(100*o+i)) })
	}
}

func (w *twin) drop(t *testing.T, o int, name string) {
	t.Helper()
	w.both(t, func(h *heap.Heap) any { return h.Delete(o, name) })
}

func (w *twin) under(t *testing.T, o, p int) {
	t.Helper()
	w.both(t, func(h *heap.Heap) any { return h.SetProto(o, p) })
}

// chain makes each object the prototype of the one ahead of it.
func (w *twin) chain(t *testing.T, l ...int) {
	t.Helper()
	for i := 1; i < len(l); i++ {
		w.under(t, l[i-1], l[i])
	}
}

func (w *twin) get(t *testing.T, f, s, o int, name string) api.Value {
	t.Helper()
	want := w.alone.Get(o, name)
	w.m.get(w.alone, f, s, o, name)
	if v := w.x.Get(w.h, f, s, o, name); v != want {
		t.Fatalf("Get(%d, %d, %d, %q) is %v, not %v", f, s, o, name, v, want)
	}
	w.same(t, f, s)
	return want
}

func (w *twin) set(t *testing.T, f, s, o int, name string, v api.Value) api.Errno {
	t.Helper()
	want := w.m.set(w.alone, f, s, o, name, v)
	if e := w.x.Set(w.h, f, s, o, name, v); e != want {
		t.Fatalf("Set(%d, %d, %d, %q) is %v, not %v", f, s, o, name, e, want)
	}
	w.same(t, f, s)
	return want
}

func (w *twin) flush(t *testing.T, f int) {
	t.Helper()
	w.m.flush(f)
	w.x.Flush(f)
	w.hold(t)
}

func (w *twin) mega(t *testing.T, f int) {
	t.Helper()
	w.m.mega(f)
	w.x.Mega(f)
	w.hold(t)
}

func sameEntry(a, b site.Entry) bool {
	return a.Shape == b.Shape && a.Holder == b.Holder && a.Slot == b.Slot && a.To == b.To && slices.Equal(a.Deps, b.Deps)
}

// same holds one site, and the counts, against the model.
func (w *twin) same(t *testing.T, f, s int) {
	t.Helper()
	kind, l := w.m.state(f, s)
	if k, got := w.x.State(f, s); k != kind || !slices.EqualFunc(got, l, sameEntry) {
		t.Fatalf("State(%d, %d) is %d, %v, not %d, %v", f, s, k, got, kind, l)
	}
	name, sets, is := w.m.name(f, s)
	if n, x, y := w.x.Name(f, s); n != name || x != sets || y != is {
		t.Fatalf("Name(%d, %d) is %q, %v, %v, not %q, %v, %v", f, s, n, x, y, name, sets, is)
	}
	if a, b := w.x.Counts(); a != w.m.hits || b != w.m.misses {
		t.Fatalf("Counts are %d, %d, not %d, %d", a, b, w.m.hits, w.m.misses)
	}
}

// hold asks all sites, and numbers that are none's, and holds the heaps against one another.
func (w *twin) hold(t *testing.T) {
	t.Helper()
	for _, f := range append(outside(len(w.m.sites)), numbers(len(w.m.sites))...) {
		n := 1
		if f >= 0 && f < len(w.m.sites) {
			n = min(max(w.m.sites[f], 0), 9)
		}
		for _, s := range numbers(n) {
			w.same(t, f, s)
		}
		if n < 9 {
			for _, s := range outside(n) {
				w.same(t, f, s)
			}
		}
	}
	w.sameHeaps(t)
}

func (w *twin) sameHeaps(t *testing.T) {
	t.Helper()
	if w.h.Dump() != w.alone.Dump() || w.h.Len() != w.alone.Len() {
		t.Fatalf("the heaps are\n%s\nand\n%s", w.h.Dump(), w.alone.Dump())
	}
	for o := 1; o <= w.h.Len(); o++ {
		if a, b := w.h.Shape(o), w.alone.Shape(o); a != b || w.h.Epoch(o) != w.alone.Epoch(o) {
			t.Fatalf("%d is of %d and %d; it changed %d and %d times", o, a, b, w.h.Epoch(o), w.alone.Epoch(o))
		}
	}
}

// sameNext asks for a shape more of each, by which it shows how many there are; it is for the end.
func (w *twin) sameNext(t *testing.T) {
	t.Helper()
	for o := 1; o <= w.h.Len(); o++ {
		for _, name := range []string{"a", "b", "a new one"} {
			if a, b := w.h.Next(w.h.Shape(o), name), w.alone.Next(w.alone.Shape(o), name); a != b {
				t.Fatalf("the shape that comes of %d with %q is %d and %d", o, name, a, b)
			}
		}
	}
}

// is says by hand what a site is.
func (w *twin) is(t *testing.T, f, s, kind int, l ...site.Entry) {
	t.Helper()
	if k, got := w.x.State(f, s); k != kind || !slices.EqualFunc(got, l, sameEntry) {
		t.Errorf("State(%d, %d) is %d, %v, not %d, %v", f, s, k, got, kind, l)
	}
}

// counts says by hand what Counts are.
func (w *twin) counts(t *testing.T, hits, misses int) {
	t.Helper()
	if a, b := w.x.Counts(); a != hits || b != misses {
		t.Errorf("Counts are %d, %d, not %d, %d", a, b, hits, misses)
	}
}

// named says by hand what Name is; sets is told where there is one.
func (w *twin) named(t *testing.T, f, s int, name string, sets, is bool) {
	t.Helper()
	if n, x, y := w.x.Name(f, s); n != name || x != sets || y != is {
		t.Errorf("Name(%d, %d) is %q, %v, %v, not %q, %v, %v", f, s, n, x, y, name, sets, is)
	}
}

// numbers are those from 0 up to n.
func numbers(n int) []int {
	var out []int
	for i := range n {
		out = append(out, i)
	}
	return out
}

// outside are numbers that are not from 0 to n - 1.
func outside(n int) []int {
	return []int{-1, -2, -n - 1, n, n + 1, 2*n + 1, math.MaxInt, math.MinInt, 1 << 32, -1 << 32}
}
