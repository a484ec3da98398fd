package heap_test

import (
	"math"
	"slices"
	"strconv"
	"strings"
	"testing"

	"proteus/api"
	"proteus/heap"
)

// letters are n names.
func letters(n int) []string {
	var out []string
	for i := range n {
		out = append(out, "n"+strconv.Itoa(i))
	}
	return out
}

// someValues are of each kind, a Null among them, and such as may not be.
func someValues() []api.Value {
	return []api.Value{
		{}, {Kind: api.Bool}, {Kind: api.Bool, N: 1}, integer(0), integer(-7), integer(math.MaxInt), integer(math.MinInt),
		str(""), str("a"), str("a b\n\"\\\xff"), str(strings.Repeat("s", 300)), {Kind: api.Obj, N: 1}, {Kind: api.Obj, N: 99}, {Kind: api.Obj}, {Kind: api.Fun}, {Kind: api.Fun, N: 31},
		{Kind: 6, N: 5, S: "q"}, {Kind: -1}, {Kind: api.Null, N: 3, S: "z"},
	}
}

// oddNames are texts that a source could not write as names, too.
func oddNames() []string {
	return []string{"", " ", ":", "a", "A", "a:1", "a b", "\x00", "\x00\x00", "\xff", "\n", "é", "__proto__", strings.Repeat("a", 12), strings.Repeat("a", 13), strings.Repeat("a", 5000)}
}

// P12.1
func TestNew(t *testing.T) {
	w := newTwin(5, 5, 20)
	w.hold(t)
	if w.h.Next(1, "a") != 0 || w.h.SlotOf(1, "a") != -1 {
		t.Error("there is a shape ahead of the first object")
	}
	if o := w.make(t); o != 1 || w.h.Shape(1) != 1 || w.h.Epoch(1) != 0 || w.h.Proto(1) != 0 || w.h.Count(1) != 0 {
		t.Error("the first object", o)
	}
	if o := w.make(t); o != 2 || w.h.Shape(2) != 1 {
		t.Error("the second one", o)
	}
	w.hold(t)
}

// P12.1: limits are cut from both sides.
func TestLimitOfObjects(t *testing.T) {
	for _, x := range []struct{ limit, most int }{
		{math.MinInt, 0}, {-200, 0}, {-1, 0}, {0, 0}, {1, 1}, {2, 2}, {7, 7}, {199, 199}, {200, 200}, {201, 200}, {400, 200}, {1 << 32, 200}, {math.MaxInt, 200},
	} {
		for _, shapes := range []int{0, 5} {
			h := heap.New(api.Limits{Objects: x.limit, Props: 1}, shapes)
			for i := range x.most {
				if o, e := h.Make(); o != i+1 || e != api.OK || h.Len() != i+1 {
					t.Fatalf("limit %d: Make is %d, %v", x.limit, o, e)
				}
			}
			for range 3 {
				if o, e := h.Make(); o != 0 || e != api.LimObjects || h.Len() != x.most {
					t.Fatalf("limit %d: Make of one more is %d, %v", x.limit, o, e)
				}
			}
			if h.Proto(x.most+1) != 0 || h.Set(x.most+1, "a", integer(1)) != api.ErrNone {
				t.Errorf("limit %d: the object that was refused is there", x.limit)
			}
		}
	}
}

// P12.1, P12.2: so many properties an object has at most; by Set and by Grow.
func TestLimitOfProps(t *testing.T) {
	for _, x := range []struct{ limit, most int }{
		{math.MinInt, 0}, {-32, 0}, {-1, 0}, {0, 0}, {1, 1}, {2, 2}, {11, 11}, {12, 12}, {13, 13}, {31, 31}, {32, 32}, {33, 32}, {64, 32}, {1 << 32, 32}, {math.MaxInt, 32},
	} {
		for _, shapes := range []int{0, 1, 4, maxShapes} {
			w := newTwin(2, x.limit, shapes)
			w.makes(t, 2)
			w.sets(t, 1, letters(x.most)...)
			w.hold(t)
			for _, name := range []string{"more", "", "again"} {
				if e := w.set(t, 1, name, integer(9)); e != api.LimProps {
					t.Fatalf("limit %d: Set of one more is %v", x.limit, e)
				}
				w.hold(t, name)
			}
			for i, name := range letters(x.most) {
				if e := w.set(t, 1, name, integer(-i)); e != api.OK {
					t.Fatalf("limit %d: Set again is %v", x.limit, e)
				}
			}
			w.hold(t)
			if x.most > 0 && (!w.drop(t, 1, "n0") || w.set(t, 1, "more", integer(1)) != api.OK || w.set(t, 1, "n0", integer(1)) != api.LimProps) {
				t.Errorf("limit %d: what went makes no room", x.limit)
			}
			w.hold(t, "n0")
		}
	}
}

// P12.1: Objects and Props are two limits, and the others are none here.
func TestOtherLimits(t *testing.T) {
	h := heap.New(api.Limits{Objects: 3, Props: 1}, 9)
	g := heap.New(api.Limits{Objects: 3, Props: 1, Depth: -5, Str: -5}, 9)
	for _, x := range []*heap.Heap{h, g} {
		for range 4 {
			x.Make()
		}
		x.Set(1, strings.Repeat("long", 100), str(strings.Repeat("x", 1000)))
		x.Set(1, "b", integer(1))
		x.SetProto(2, 1)
		x.SetProto(3, 2)
	}
	if h.Dump() != g.Dump() || h.Len() != 3 || h.Count(1) != 1 || h.Proto(3) != 2 {
		t.Errorf("%q and %q", h.Dump(), g.Dump())
	}
}

// P12.1: a Make that is refused makes no shape.
func TestRefusedMakeMakesNoShape(t *testing.T) {
	h := heap.New(api.Limits{Props: 5}, 20)
	for range 2 {
		if o, e := h.Make(); o != 0 || e != api.LimObjects {
			t.Error("Make", o, e)
		}
		if id := h.Next(1, "a"); id != 0 {
			t.Error("there is a shape with", id)
		}
	}
}

// P12.1, P12.4: rooms of shapes, cut from both sides.
func TestRoomOfShapes(t *testing.T) {
	for _, x := range []struct{ room, most int }{
		{math.MinInt, 0}, {-1, 0}, {0, 0}, {1, 1}, {2, 2}, {9, 9}, {149, 149}, {150, 150}, {151, 150}, {1 << 32, 150}, {math.MaxInt, 150},
	} {
		w := newTwin(3, 2, x.room)
		w.make(t)
		if (w.h.Shape(1) == 1) != (x.most > 0) {
			t.Errorf("room %d: the first object is of %d", x.room, w.h.Shape(1))
		}
		last := 0
		for _, name := range letters(200) {
			last = max(last, w.next(t, 1, name))
		}
		if want := x.most; x.most > 1 && last != want || x.most <= 1 && last != 0 {
			t.Errorf("room %d: the last shape is %d, not %d", x.room, last, want)
		}
		w.makes(t, 2)
		w.sets(t, 2, "n0", "q")
		w.hold(t, "n0", "q")
	}
}

// P12.2: a property of each place is set again, and keeps its place.
func TestSetAgain(t *testing.T) {
	for _, shapes := range []int{0, 1, 2, maxShapes} {
		for n := 1; n <= 15; n++ {
			w := newTwin(2, maxProps, shapes)
			w.makes(t, 2)
			w.sets(t, 1, letters(n)...)
			w.sets(t, 2, letters(n)...)
			w.hold(t)
			for i, name := range letters(n) {
				was := w.h.Epoch(1)
				w.set(t, 1, name, str(name))
				w.set(t, 1, strings.Clone(name), str(name+"!"))
				if w.h.Epoch(1) != was {
					t.Errorf("a value of place %d counts as a change", i)
				}
				w.hold(t)
			}
		}
	}
}

// P12.2: of 1 to 5 and of more names, each goes, and comes again behind all others.
func TestDeleteAtEachPlace(t *testing.T) {
	for _, n := range []int{1, 2, 3, 4, 5, 12, 13, 20} {
		for i, name := range letters(n) {
			w := roomy(t, 2)
			w.sets(t, 1, letters(n)...)
			w.sets(t, 2, letters(n)...)
			if !w.drop(t, 1, name) || w.drop(t, 1, name) || w.h.Shape(1) != 0 || w.h.Count(1) != n-1 {
				t.Errorf("Delete of %d of %d", i, n)
			}
			w.hold(t, name)
			w.set(t, 1, name, str("new"))
			if k, _ := w.h.Key(1, n-1); k != name || w.h.Shape(1) != 0 || w.h.Epoch(1) != n+2 {
				t.Errorf("it came again as %q", k)
			}
			w.hold(t, name)
		}
	}
}

// P12.2: several go, in several orders, till there is none; then others come, and the object stays a dictionary.
func TestDeleteAll(t *testing.T) {
	for _, which := range []func(n int) int{
		func(n int) int { return 0 },
		func(n int) int { return n - 1 },
		func(n int) int { return n / 2 },
		func(n int) int { return n * 7 % 5 % n },
	} {
		w := roomy(t, 1)
		w.sets(t, 1, letters(10)...)
		for n := 10; n > 0; n-- {
			name, _ := w.h.Key(1, which(n))
			w.drop(t, 1, name)
			w.hold(t, letters(10)...)
		}
		w.sets(t, 1, "n3", "q", "n1")
		w.hold(t, letters(10)...)
		if w.h.Shape(1) != 0 {
			t.Error("it is of a shape again")
		}
	}
}

// P12.2: what is deleted is not there: on the chain it may be, and stays.
func TestDeleteIsOwn(t *testing.T) {
	w := roomy(t, 3)
	w.sets(t, 1, "a", "b")
	w.sets(t, 2, "b")
	w.setProto(t, 2, 1)
	w.setProto(t, 3, 2)
	for _, x := range []struct {
		o    int
		name string
		is   bool
	}{{3, "a", false}, {3, "b", false}, {2, "a", false}, {2, "b", true}, {2, "b", false}, {1, "c", false}, {1, "", false}, {1, "b", true}} {
		shape, epoch := w.h.Shape(x.o), w.h.Epoch(x.o)
		if w.drop(t, x.o, x.name) != x.is {
			t.Errorf("Delete(%d, %q) is not %v", x.o, x.name, x.is)
		}
		if !x.is && (w.h.Shape(x.o) != shape || w.h.Epoch(x.o) != epoch) {
			t.Errorf("Delete(%d, %q) did something", x.o, x.name)
		}
		w.hold(t, "a", "b", "c")
	}
}

// P12.2: a chain of several; a property that the first, a middle, the last one, and none has.
func TestChain(t *testing.T) {
	for _, shapes := range []int{0, 6, maxShapes} {
		w := newTwin(9, 9, shapes)
		w.makes(t, 9)
		for o := 1; o < 7; o++ {
			w.setProto(t, o, o+1)
		}
		w.set(t, 1, "first", integer(1))
		w.set(t, 4, "middle", integer(4))
		w.set(t, 7, "last", integer(7))
		w.set(t, 8, "other", integer(8))
		for _, o := range []int{2, 5, 7} {
			w.set(t, o, "some", integer(o))
		}
		w.hold(t, "first", "middle", "last", "other", "some")
		for _, x := range []struct {
			o    int
			name string
			n    int
		}{{1, "first", 1}, {1, "middle", 4}, {1, "last", 7}, {2, "middle", 4}, {4, "middle", 4}, {4, "last", 7}, {7, "last", 7}, {1, "some", 2}, {2, "some", 2}, {3, "some", 5}, {6, "some", 7}} {
			if v := w.h.Get(x.o, x.name); v != integer(x.n) {
				t.Errorf("Get(%d, %q) is %v", x.o, x.name, v)
			}
		}
		for _, x := range []pair{{name: "other"}, {name: "none"}, {name: ""}} {
			if v := w.h.Get(1, x.name); v != x.v {
				t.Errorf("Get(1, %q) is %v", x.name, v)
			}
		}
		if w.h.Get(5, "middle") != (api.Value{}) || w.h.Get(2, "first") != (api.Value{}) || w.h.Get(9, "last") != (api.Value{}) {
			t.Error("a property is found behind")
		}
	}
}

// P12.2: a property that is a Null is one: it hides those behind it, and has its place.
func TestNullIsAValue(t *testing.T) {
	for _, shapes := range []int{0, 2, maxShapes} {
		w := newTwin(3, 3, shapes)
		w.makes(t, 3)
		w.set(t, 1, "a", integer(1))
		w.set(t, 2, "a", api.Value{})
		w.setProto(t, 2, 1)
		w.setProto(t, 3, 2)
		if v, is := w.h.Own(2, "a"); !is || v != (api.Value{}) || w.h.Get(3, "a") != v || w.h.Get(2, "a") != v {
			t.Error("a Null does not hide", v, is)
		}
		w.hold(t, "a")
		if w.h.Epoch(2) != 2 || w.set(t, 2, "a", api.Value{}) != api.OK || w.h.Epoch(2) != 2 {
			t.Error("a Null comes twice")
		}
		if !w.drop(t, 2, "a") || w.h.Get(3, "a") != integer(1) {
			t.Error("a Null is not deleted")
		}
		w.hold(t, "a")
	}
}

// P12.2: Set is the object's own, whatever the chain has.
func TestSetHides(t *testing.T) {
	w := roomy(t, 3)
	w.set(t, 1, "a", integer(1))
	w.setProto(t, 2, 1)
	w.setProto(t, 3, 1)
	w.set(t, 2, "a", integer(2))
	if w.h.Get(1, "a") != integer(1) || w.h.Get(2, "a") != integer(2) || w.h.Get(3, "a") != integer(1) || w.h.Epoch(1) != 1 || w.h.Epoch(2) != 2 {
		t.Error("Set of a name that the prototype has")
	}
	w.hold(t, "a")
	w.set(t, 1, "a", integer(5))
	if w.h.Get(3, "a") != integer(5) || w.h.Epoch(3) != 1 {
		t.Error("Set of the prototype's")
	}
	w.hold(t, "a")
}

// P12.2, P12.5: names and values are any, and come back as they are.
func TestAnyNamesAndValues(t *testing.T) {
	for _, shapes := range []int{0, 4, maxShapes} {
		w := newTwin(60, maxProps, shapes)
		for _, name := range oddNames() {
			o := w.make(t)
			for _, v := range someValues() {
				w.set(t, o, name, v)
				w.hold(t, oddNames()...)
			}
		}
		o := w.make(t)
		for i, name := range oddNames() {
			w.set(t, o, name, someValues()[i])
			w.hold(t, oddNames()...)
		}
		o = w.make(t)
		for i, v := range someValues() {
			w.set(t, o, "v"+strconv.Itoa(i), v)
			if got, is := w.h.Own(o, "v"+strconv.Itoa(i)); got != v || !is {
				t.Errorf("%v is %v, %v", v, got, is)
			}
		}
		w.hold(t)
	}
}

// P12.2: names taken out of bytes that change afterwards.
func TestNamesOfBytesThatChange(t *testing.T) {
	b := []byte("abc")
	w := roomy(t, 2)
	w.set(t, 1, string(b), str(string(b)))
	w.next(t, 1, string(b))
	copy(b, "xyz")
	w.set(t, 1, string(b), str(string(b)))
	w.hold(t, "abc", "xyz")
}

// P12.2: Set with no such object; nothing has changed.
func TestSetOfNone(t *testing.T) {
	for _, n := range []int{0, 1, 3} {
		w := roomy(t, n)
		for o := 1; o <= n; o++ {
			w.sets(t, o, "a", "b")
		}
		for _, o := range noNumbers(n) {
			if e := w.set(t, o, "a", integer(5)); e != api.ErrNone {
				t.Errorf("Set(%d) is %v", o, e)
			}
			w.hold(t, "a", "b")
		}
	}
}

// P12.5: the line of each object.
func TestDump(t *testing.T) {
	for _, shapes := range []int{0, 3, maxShapes} {
		h := heap.New(api.Limits{Objects: 20, Props: 9}, shapes)
		if s := h.Dump(); s != "" {
			t.Errorf("without objects it is %q", s)
		}
		for range 11 {
			h.Make()
		}
		h.Set(1, "z", integer(-3))
		h.Set(1, "a", str("q\n"))
		h.Set(1, "b", api.Value{Kind: api.Obj, N: 2})
		h.Set(10, "f", api.Value{Kind: api.Fun, N: 4})
		h.Set(10, "", api.Value{Kind: api.Bool, N: 1})
		h.Set(2, "gone", integer(1))
		h.Delete(2, "gone")
		h.Set(3, "n", api.Value{})
		h.SetProto(3, 10)
		h.SetProto(2, 11)
		want := "#1 #0 z:-3 a:\"q\\x0a\" b:#2\n#2 #11\n#3 #10 n:null\n#4 #0\n#5 #0\n#6 #0\n#7 #0\n#8 #0\n#9 #0\n#10 #0 f:&4 :true\n#11 #0\n"
		if s := h.Dump(); s != want {
			t.Errorf("room %d: it is %q", shapes, s)
		}
	}
}

// P12.5: all calls on a nil Heap and on one that no call made, and again behind a Make.
func TestNoHeap(t *testing.T) {
	var none heap.Heap
	for what, h := range map[string]*heap.Heap{"nil": nil, "zero": {}, "new": new(heap.Heap), "var": &none} {
		for round := range 3 {
			if h.Len() != 0 || h.Dump() != "" {
				t.Errorf("%s, round %d: Len is %d, Dump %q", what, round, h.Len(), h.Dump())
			}
			for _, o := range append(noNumbers(3), 1, 2, 3) {
				holdNone(t, h, o, []string{"", "a"})
				holdNoShape(t, h, o, []string{"", "a"})
				for _, p := range append(noNumbers(3), 1, 2, 3) {
					a, b, c := h.Set(o, "a", integer(p)), h.SetProto(o, p), h.Grow(o, p, integer(1))
					if a != api.ErrNil || b != api.ErrNil || c != api.ErrNil {
						t.Fatalf("%s, round %d: of %d and %d, Set, SetProto and Grow are %v, %v, %v", what, round, o, p, a, b, c)
					}
				}
			}
			if o, e := h.Make(); o != 0 || e != api.ErrNil {
				t.Errorf("%s, round %d: Make is %d, %v", what, round, o, e)
			}
		}
	}
}

// P12.5: a Heap that no call made takes nothing of those that were made, nor they of it.
func TestNoHeapBesideOne(t *testing.T) {
	var none heap.Heap
	w := roomy(t, 2)
	w.sets(t, 1, "a")
	none.Make()
	none.Set(1, "b", integer(1))
	none.SetProto(1, 2)
	none.Next(1, "b")
	w.hold(t, "a", "b")
	w.make(t)
	if none.Len() != 0 {
		t.Error("it has what another has")
	}
	holdNone(t, &none, 1, []string{"a", "b"})
}

// P12.2: Key tells the properties in the order in which they came, also of objects of one shape and a dictionary among them.
func TestKeysInOrder(t *testing.T) {
	names := strings.Split("fcaedb", "")
	w := roomy(t, 4)
	w.sets(t, 1, names...)
	slices.Sort(names)
	w.sets(t, 2, names...)
	slices.Reverse(names)
	w.sets(t, 3, names...)
	w.sets(t, 4, "x", "f")
	w.drop(t, 4, "x")
	w.sets(t, 4, names...)
	for o, want := range []string{"fcaedb", "abcdef", "fedcba", "fedcba"} {
		got := ""
		for i := range w.h.Count(o + 1) {
			k, _ := w.h.Key(o+1, i)
			got += k
		}
		if got != want {
			t.Errorf("the keys of %d are %s", o+1, got)
		}
	}
	w.hold(t, names...)
}
