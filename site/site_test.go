package site_test

import (
	"math"
	"slices"
	"testing"

	"proteus/api"
	"proteus/heap"
	"proteus/site"
)

// P17.1: all sites are fresh, and there are as many as it says.
func TestNew(t *testing.T) {
	for _, sites := range [][]int{nil, {}, {0}, {1}, {3, 0, 2}, {-1, 2, math.MinInt, 1}, {5, 5, 5}} {
		w := roomy(t, 0, sites...)
		w.hold(t)
		for f, n := range sites {
			for s := range max(n, 0) {
				w.is(t, f, s, site.Fresh)
				w.named(t, f, s, "", false, false)
			}
		}
		w.counts(t, 0, 0)
	}
}

// P17.1: only the sites that there are play a part; the first and the last do.
func TestWhichSitesThereAre(t *testing.T) {
	sites := []int{2, 0, -1, 3, 1}
	w := roomy(t, 1, sites...)
	w.plain(t, 1, "x")
	for f := -1; f <= len(sites); f++ {
		for s := -1; s <= 3; s++ {
			w.get(t, f, s, 1, "x")
			w.get(t, f, s, 1, "x")
			kind, _ := w.x.State(f, s)
			if is := f >= 0 && f < len(sites) && s >= 0 && s < sites[f]; is != (kind == site.Mono) {
				t.Errorf("site %d of %d is %d", s, f, kind)
			}
		}
	}
	w.counts(t, 6, 7*5*2-6)
	w.hold(t)
}

// P17.1: more sites than there could be room for.
func TestManySites(t *testing.T) {
	w := roomy(t, 2, math.MaxInt, 1<<40, 1)
	w.plain(t, 1, "x")
	w.plain(t, 2, "x")
	for f, last := range []int{math.MaxInt - 1, 1<<40 - 1} {
		for o := 1; o <= 2; o++ {
			for _, s := range []int{0, 1, last - 1, last, 1 << 39} {
				w.get(t, f, s, o, "x")
				w.is(t, f, s, site.Mono, site.Entry{Shape: w.h.Shape(1)})
				w.is(t, f, 2, site.Fresh)
			}
		}
	}
	w.counts(t, 10, 10)
	w.get(t, 0, math.MaxInt, 1, "x")
	w.get(t, 1, 1<<40, 1, "x")
	w.is(t, 0, math.MaxInt, site.Fresh)
	w.is(t, 1, 1<<40, site.Fresh)
	w.x.Flush(0)
	w.is(t, 0, math.MaxInt-1, site.Fresh)
	w.is(t, 1, 1<<40-1, site.Mono, site.Entry{Shape: w.h.Shape(1)})
	w.x.Mega(0)
	for _, s := range []int{0, 5, 1 << 50, math.MaxInt - 1} {
		w.is(t, 0, s, site.Mega)
	}
	for _, s := range []int{-1, math.MinInt, math.MaxInt} {
		w.is(t, 0, s, site.Fresh)
	}
	w.is(t, 1, 1<<40-1, site.Mono, site.Entry{Shape: w.h.Shape(1)})
	w.counts(t, 10, 12)
}

// P17.3: the entries that are told are nobody else's.
func TestStateIsOnesOwn(t *testing.T) {
	w := family(t, 1)
	w.get(t, 0, 0, 1, "e")
	w.get(t, 0, 0, 6, "e")
	kind, want := w.x.State(0, 0)
	for i := range want {
		want[i].Deps = slices.Clone(want[i].Deps)
	}
	for range 3 {
		_, l := w.x.State(0, 0)
		_, more := w.x.State(0, 0)
		l[0].Deps[0] = site.Dep{Obj: 77, Epoch: 77}
		_ = append(l[0].Deps[:1], site.Dep{Obj: 6, Epoch: 6})
		l[1] = site.Entry{Shape: 99}
		_ = append(l[:1], l[1])
		if !slices.EqualFunc(more, want, sameEntry) {
			t.Error("two answers are one:", more)
		}
		w.is(t, 0, 0, kind, want...)
	}
	w.get(t, 0, 0, 1, "e")
	w.counts(t, 1, 2)
	_, l := w.x.State(0, 0)
	w.plain(t, 4, "more")
	w.get(t, 0, 0, 1, "e")
	if !slices.EqualFunc(l, want, sameEntry) {
		t.Error("what was told has changed:", l)
	}
}

// P17.1: the list that was handed in is kept neither, nor changed.
func TestListIsNotKept(t *testing.T) {
	room := []int{2, 1, 7, 7}
	sites := room[:2]
	x := site.New(sites)
	h := heap.New(api.Limits{Objects: 2, Props: 2}, 9)
	h.Make()
	sites[0], sites[1] = 0, 5
	x.Get(h, 0, 1, 1, "x")
	x.Get(h, 1, 1, 1, "x")
	x.Mega(1)
	if kind, _ := x.State(0, 1); kind != site.Mono {
		t.Error("a site is gone", kind)
	}
	if kind, _ := x.State(1, 1); kind != site.Fresh {
		t.Error("a site has come", kind)
	}
	if !slices.Equal(room, []int{0, 5, 7, 7}) {
		t.Error("the list is", room)
	}
}

// P17.3: the name ahead of the first use, behind it, behind Flush, behind Mega.
func TestName(t *testing.T) {
	for _, sets := range []bool{false, true} {
		w := family(t, 1, 1)
		use := func(o int, name string) {
			if sets {
				w.set(t, 0, 0, o, name, integer(o))
			} else {
				w.get(t, 0, 0, o, name)
			}
		}
		w.named(t, 0, 0, "", false, false)
		w.flush(t, 0)
		w.named(t, 0, 0, "", false, false)
		use(99, "first")
		w.named(t, 0, 0, "", false, false)
		use(1, "first")
		w.named(t, 0, 0, "first", sets, true)
		use(6, "second")
		w.named(t, 0, 0, "first", sets, true)
		w.flush(t, 1)
		w.named(t, 0, 0, "first", sets, true)
		w.flush(t, 0)
		w.named(t, 0, 0, "", false, false)
		use(6, "second")
		w.named(t, 0, 0, "second", sets, true)
		w.mega(t, 1)
		w.named(t, 0, 0, "second", sets, true)
		w.mega(t, 0)
		w.named(t, 0, 0, "", false, false)
		use(1, "third")
		w.flush(t, 0)
		use(1, "third")
		w.named(t, 0, 0, "", false, false)
	}
}

// P17.3: a name without bytes is one that can be fixed.
func TestEmptyName(t *testing.T) {
	w := family(t, 2)
	w.get(t, 0, 0, 1, "")
	w.set(t, 0, 1, 1, "", integer(1))
	w.named(t, 0, 0, "", false, true)
	w.named(t, 0, 1, "", true, true)
	w.get(t, 0, 0, 1, "a")
	w.set(t, 0, 1, 5, "", integer(1))
	w.get(t, 0, 0, 5, "")
	w.counts(t, 1, 4)
	w.hold(t)
}

// P17.3: behind Flush a site is as new: it may be fixed otherwise, and has no entry of before.
func TestFlush(t *testing.T) {
	w := family(t, 3, 1)
	w.get(t, 0, 0, 1, "a")
	w.get(t, 0, 0, 6, "a")
	w.set(t, 0, 1, 1, "q", integer(1))
	w.get(t, 1, 0, 1, "e")
	w.counts(t, 0, 4)
	w.flush(t, 0)
	w.counts(t, 0, 4)
	for s := range 3 {
		w.is(t, 0, s, site.Fresh)
		w.named(t, 0, s, "", false, false)
	}
	w.named(t, 1, 0, "e", false, true)
	w.set(t, 0, 0, 5, "q", integer(2))
	w.named(t, 0, 0, "q", true, true)
	w.get(t, 0, 1, 5, "b")
	w.named(t, 0, 1, "b", false, true)
	w.counts(t, 0, 6)
	w.get(t, 1, 0, 1, "e")
	w.counts(t, 1, 6)
	w.get(t, 0, 1, 1, "b")
	w.get(t, 0, 0, 6, "q")
	w.counts(t, 2, 7)
	for _, f := range outside(2) {
		w.flush(t, f)
	}
	w.flush(t, 1)
	w.flush(t, 1)
	w.is(t, 1, 0, site.Fresh)
}

// P17.3: a site that is fixed without an entry is free again behind Flush.
func TestFlushWithoutEntries(t *testing.T) {
	w := family(t, 1)
	w.drop(t, 2, "x")
	w.get(t, 0, 0, 1, "e")
	w.is(t, 0, 0, site.Fresh)
	w.get(t, 0, 0, 1, "a")
	w.is(t, 0, 0, site.Fresh)
	w.named(t, 0, 0, "e", false, true)
	w.flush(t, 0)
	w.get(t, 0, 0, 1, "a")
	w.is(t, 0, 0, site.Mono, site.Entry{Shape: w.h.Shape(1)})
}

// P17.3: a site that is Mega, by shapes or by Mega, stays so behind Flush; others of the function are fresh.
func TestFlushOfMega(t *testing.T) {
	w := roomy(t, 7, 3, 2)
	for o := 1; o <= 6; o++ {
		w.plain(t, o, []string{"a", "b", "c", "d", "e", "f"}[o-1])
		w.get(t, 0, 1, o, "a")
		w.get(t, 0, 0, 1, "a")
		w.get(t, 1, 0, o%2+1, "a")
	}
	w.is(t, 0, 1, site.Mega)
	for range 2 {
		w.flush(t, 0)
		w.is(t, 0, 0, site.Fresh)
		w.is(t, 0, 1, site.Mega)
		w.is(t, 0, 2, site.Fresh)
		w.get(t, 0, 1, 7, "a")
		w.set(t, 0, 1, 7, "b", integer(1))
		w.is(t, 0, 1, site.Mega)
	}
	w.mega(t, 1)
	for range 2 {
		w.flush(t, 1)
		w.is(t, 1, 0, site.Mega)
		w.is(t, 1, 1, site.Mega)
		w.get(t, 1, 0, 1, "a")
	}
	w.mega(t, 0)
	w.flush(t, 0)
	for s := range 3 {
		w.is(t, 0, s, site.Mega)
	}
}

// P17.3: Mega of functions that there are, in any state, and that there are not.
func TestMega(t *testing.T) {
	w := family(t, 3, 2, 0, -1, 1)
	w.get(t, 0, 0, 1, "a")
	w.get(t, 0, 0, 6, "a")
	w.set(t, 0, 1, 1, "q", integer(1))
	w.get(t, 1, 1, 1, "a")
	for _, f := range outside(5) {
		w.mega(t, f)
	}
	w.is(t, 0, 2, site.Fresh)
	w.mega(t, 0)
	for s := range 3 {
		w.is(t, 0, s, site.Mega)
		w.named(t, 0, s, "", false, false)
		w.get(t, 0, s, 6, "a")
		w.set(t, 0, s, 5, "a", integer(9))
		w.is(t, 0, s, site.Mega)
	}
	w.is(t, 1, 0, site.Fresh)
	w.named(t, 1, 1, "a", false, true)
	w.counts(t, 0, 4+6)
	w.mega(t, 2)
	w.mega(t, 3)
	w.mega(t, 0)
	w.get(t, 4, 0, 1, "a")
	w.mega(t, 4)
	w.hold(t)
}

// P17.3: Counts behind each call; what only asks is not counted.
func TestCounts(t *testing.T) {
	w := family(t, 2)
	for i, x := range []struct {
		sets         bool
		s, o         int
		name         string
		hits, misses int
	}{
		{false, 0, 1, "a", 0, 1}, {false, 0, 1, "a", 1, 1}, {false, 0, 5, "a", 2, 1}, {false, 0, 1, "b", 2, 2}, {true, 0, 1, "a", 2, 3},
		{true, 1, 1, "q", 2, 4}, {true, 1, 5, "q", 3, 4}, {true, 1, 5, "q", 3, 5}, {true, 1, 1, "q", 4, 5}, {false, 1, 1, "q", 4, 6},
		{false, 0, 1, "a", 4, 7}, {false, 0, 5, "a", 5, 7}, {false, 0, 99, "a", 5, 8}, {true, 1, 99, "q", 5, 9}, {false, 2, 1, "a", 5, 10}, {true, -1, 1, "z", 5, 11},
	} {
		if x.sets {
			w.set(t, 0, x.s, x.o, x.name, integer(i))
		} else {
			w.get(t, 0, x.s, x.o, x.name)
		}
		for range 2 {
			w.counts(t, x.hits, x.misses)
			w.hold(t)
		}
	}
	w.flush(t, 0)
	w.mega(t, 0)
	w.counts(t, 5, 11)
}
