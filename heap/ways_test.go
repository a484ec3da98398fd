package heap

import (
	"testing"

	"proteus/api"
)

// numbersOf asks for all names that have numbers, in the order of these.
func numbersOf(h *Heap) string {
	out := ""
	for id := 1; id <= h.in.classes.names.Len(); id++ {
		s, _ := h.in.classes.names.Text(id)
		out += s + ";"
	}
	return out
}

// The chapter's words: a name gets its number when a property of that name first comes to an object of a shape, by Set or by Next; no call shows it.
func TestNamesGetNumbers(t *testing.T) {
	h := New(api.Limits{Objects: 4, Props: 3}, 20)
	v := api.Value{}
	want := func(deed, names string) {
		t.Helper()
		if got := numbersOf(h); got != names {
			t.Errorf("behind %s there are %s, not %s", deed, got, names)
		}
	}
	want("New", "")
	h.Next(1, "early")
	h.Set(1, "early", v)
	want("what is refused", "")
	for range 3 {
		h.Make()
	}
	h.Own(1, "asked")
	h.Get(1, "asked")
	h.Delete(1, "asked")
	h.SlotOf(1, "asked")
	want("questions", "")
	h.Set(1, "b", v)
	h.Set(2, "a", v)
	h.Set(2, "b", v)
	h.Set(1, "b", v)
	want("Set", "b;a;")
	h.Next(1, "c")
	h.Next(1, "a")
	want("Next", "b;a;c;")
	h.Next(0, "d")
	h.Next(99, "d")
	want("Next of no shape", "b;a;c;")
	h.Set(2, "d", v)
	h.Set(2, "e", v)
	want("a property too many", "b;a;c;d;")
	h.Delete(1, "b")
	h.Set(1, "f", v)
	h.Set(1, "g", v)
	want("what comes to a dictionary", "b;a;c;d;")
	h.SetProto(3, 1)
	h.Set(3, "f", v)
	want("the same of a shape", "b;a;c;d;f;")
}

// The chapter's words: the name by which an object of a shape becomes a dictionary has its number, too.
func TestNameOfTheThirteenth(t *testing.T) {
	for _, room := range []int{1, 2, 20} {
		h := New(api.Limits{Objects: 1, Props: 20}, room)
		h.Make()
		for _, name := range []string{"a", "b", "c", "d", "e", "f", "g", "h", "i", "j", "k", "l", "m", "n", "o"} {
			h.Set(1, name, api.Value{})
		}
		want := map[int]string{1: "a;", 2: "a;b;", 20: "a;b;c;d;e;f;g;h;i;j;k;l;m;"}[room]
		if got := numbersOf(h); got != want || h.Shape(1) != 0 {
			t.Errorf("room for %d: there are %s, not %s", room, got, want)
		}
	}
}

// The chapter's ways: an object is of slots or of a dictionary, and of slots just if it has a shape, with as many names as slots.
func TestKeptAsTold(t *testing.T) {
	h := New(api.Limits{Objects: 9, Props: 20}, 30)
	for o := 1; o <= 9; o++ {
		h.Make()
		for i := range 2 * o {
			h.Set(o, string(rune('a'+(i*o)%26)), api.Value{Kind: api.Int, N: i})
		}
		if o%3 == 0 {
			h.Delete(o, "a")
		}
		h.SetProto(o, o/2)
	}
	slots := 0
	for o := 1; o <= 9; o++ {
		switch x := h.at(o).object.(type) {
		case *slotted:
			slots++
			if x.shape != h.Shape(o) || x.shape == 0 || len(x.values) != h.in.classes.shapes.Size(x.shape) {
				t.Errorf("%d is of %d, with %d slots", o, x.shape, len(x.values))
			}
		case *dictionary:
			if h.Shape(o) != 0 {
				t.Errorf("%d is a dictionary, and of %d", o, h.Shape(o))
			}
		default:
			t.Errorf("%d is neither", o)
		}
	}
	if slots == 0 || slots == 9 {
		t.Error("the test's objects are too much alike", slots)
	}
}
