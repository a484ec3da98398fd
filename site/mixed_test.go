package site_test

import (
	"testing"

	"proteus/api"
	"proteus/heap"
	"proteus/site"
)

// dice are numbers that look mixed, the same ones each time.
type dice uint64

func (d *dice) below(n int) int {
	*d = *d*6364136223846793005 + 1442695040888963407
	return int(uint64(*d) >> 33 % uint64(n))
}

// world is how much of each a mixed row is over.
type world struct {
	objects, names, shapes, props int
	sites                         []int
	steady                        bool // most sites are used in one way alone
	bare                          bool // nothing is done that hangs on shapes
}

func letter(i int) string { return string(rune('a' + i)) }

// plainDeed is one that the Table does not see.
func (d *dice) plainDeed(t *testing.T, w *twin, x world) {
	t.Helper()
	o := 1 + d.below(x.objects)
	name := letter(d.below(x.names))
	deed := d.below(12)
	if x.bare && (deed == 6 || deed == 7) {
		deed = 5
	}
	switch deed {
	case 0:
		w.drop(t, o, name)
	case 1, 2:
		w.under(t, o, d.below(x.objects+1))
	case 3, 4, 5:
		n := d.below(999)
		w.both(t, func(h *heap.Heap) any { return h.Set(o, name, integer(n)) })
	case 6:
		w.both(t, func(h *heap.Heap) any { return h.Grow(o, h.Next(h.Shape(o), name), integer(5)) })
	case 7:
		w.both(t, func(h *heap.Heap) any { return h.Put(o, 0, integer(6)) })
	default:
		w.both(t, func(h *heap.Heap) any { n, e := h.Make(); return [2]int{n, int(e)} })
	}
}

// use is a get or a set at some site, now and then at none, or of no object.
func (d *dice) use(t *testing.T, w *twin, x world) {
	t.Helper()
	f := d.below(len(x.sites))
	s := d.below(max(x.sites[f], 1))
	o := 1 + d.below(x.objects)
	name, sets := letter(d.below(x.names)), d.below(2) == 0
	if x.steady && d.below(20) > 0 {
		name, sets = letter((f+s/2)%x.names), s%2 == 0
	}
	switch d.below(40) {
	case 0:
		f = outside(len(x.sites))[d.below(10)]
	case 1:
		s = outside(max(x.sites[f], 0))[d.below(10)]
	case 2:
		o = noObjects(x.objects)[d.below(9)]
	}
	if sets {
		w.set(t, f, s, o, name, integer(d.below(999)))
	} else {
		w.get(t, f, s, o, name)
	}
}

func (d *dice) deed(t *testing.T, w *twin, x world) {
	t.Helper()
	switch n := d.below(1000); {
	case n == 0:
		w.mega(t, d.below(len(x.sites)+2)-1)
	case n < 15:
		w.flush(t, d.below(len(x.sites)+2)-1)
	case n < 100:
		d.plainDeed(t, w, x)
	default:
		d.use(t, w, x)
	}
}

func (x world) twin(t *testing.T) *twin {
	t.Helper()
	w := newTwin(api.Limits{Objects: x.objects, Props: x.props}, x.shapes, x.sites...)
	for range (x.objects + 1) / 2 {
		w.both(t, func(h *heap.Heap) any { o, _ := h.Make(); return o })
	}
	return w
}

// P17.4: mixed rows of gets, sets, deletes, turns and flushes: answers and heaps are those of a heap alone, and sites and counts those of the model.
func TestMixed(t *testing.T) {
	kinds := map[int]int{}
	hits, grown := 0, 0
	for seed := range 600 {
		d := dice(seed)
		x := world{
			objects: 2 + seed%9, names: 1 + seed%5, shapes: []int{150, 40, 12, 4, 150, 0}[seed%6], props: 1 + seed%7,
			sites: [][]int{{1}, {2, 3}, {4, 0, -2, 8}, {9, 9}}[seed%4], steady: seed%5 > 0,
		}
		w := x.twin(t)
		for i := range 500 {
			d.deed(t, w, x)
			if i%10 == 0 {
				w.hold(t)
			}
		}
		w.hold(t)
		w.sameNext(t)
		hits += w.m.hits
		for f, n := range x.sites {
			for s := range max(n, 0) {
				kind, l := w.x.State(f, s)
				kinds[kind]++
				for _, e := range l {
					grown += min(e.To, 1)
				}
			}
		}
	}
	if kinds[site.Mono] < 500 || kinds[site.Poly] < 500 || kinds[site.Mega] < 500 || hits < 20000 || grown < 100 {
		t.Error("the test's sites are too much alike", kinds, hits, grown)
	}
}

// P17.4: all rows of five deeds out of nine on three objects, at three sites.
func TestAllShortRows(t *testing.T) {
	deeds := []func(w *twin){
		func(w *twin) { w.get(t, 0, 0, 1, "a") },
		func(w *twin) { w.get(t, 0, 0, 2, "a") },
		func(w *twin) { w.set(t, 0, 1, 1, "a", integer(1)) },
		func(w *twin) { w.set(t, 0, 1, 2, "a", integer(2)) },
		func(w *twin) { w.plain(t, 2, "b") },
		func(w *twin) { w.under(t, 1, 2) },
		func(w *twin) { w.under(t, 2, 0) },
		func(w *twin) { w.drop(t, 3, "a") },
		func(w *twin) { w.flush(t, 0) },
	}
	const long = 5
	rows := 1
	for range long {
		rows *= len(deeds)
	}
	for row := range rows {
		w := roomy(t, 3, 2)
		w.plain(t, 3, "a")
		w.under(t, 2, 3)
		for i, r := 0, row; i < long; i, r = i+1, r/len(deeds) {
			deeds[r%len(deeds)](w)
		}
		w.get(t, 0, 0, 1, "a")
		w.sameHeaps(t)
	}
}

// P17.4: other sites, other numbers of shapes: the same is answered, and the heaps are the same as texts.
func TestSitesDoNotShow(t *testing.T) {
	for seed := range 30 {
		x := world{objects: 3 + seed%7, names: 1 + seed%4, props: 2 + seed%5, sites: []int{3, 4}, steady: true, bare: true}
		var dumps []string
		for _, sites := range [][]int{nil, {1}, {3, 4}, {0, 9}} {
			for _, shapes := range []int{0, 3, 30, 150} {
				d := dice(seed)
				x.shapes = shapes
				w := x.twin(t)
				w.x, w.m = site.New(sites), newModel(sites)
				for range 300 {
					d.deed(t, w, x)
				}
				dumps = append(dumps, w.h.Dump())
			}
		}
		for _, s := range dumps {
			if s != dumps[0] {
				t.Fatalf("seed %d: they are\n%s\nand\n%s", seed, s, dumps[0])
			}
		}
	}
}
