package shape

import "testing"

// The chapter's ways: a shape's map is made once it is needed, and not ahead; each shape is led to once, by its root's prototype or its parent's map.
func TestTrees(t *testing.T) {
	f := New(40)
	checkTrees(t, f)
	for i := range 60 {
		f.Root(i % 7)
		checkTrees(t, f)
		f.Add(f.Len()/2, i%5)
		f.Add(f.Len(), i%9)
		checkTrees(t, f)
		f.Move(f.Len()-i%4, i%6)
		checkTrees(t, f)
	}
	if f.Len() != 40 {
		t.Error("the test's Forest is too small", f.Len())
	}
	// Where there is no room, what was asked for is not kept.
	f.Root(99)
	f.Move(1, 98)
	f.Add(40, 97)
	if len(f.in.roots) != 7 || f.in.at(40).next != nil {
		t.Error("shapes that are not there are led to", len(f.in.roots))
	}
}

func checkTrees(t *testing.T, f *Forest) {
	t.Helper()
	led := map[int]int{}
	for proto, id := range f.in.roots {
		led[id]++
		if s := f.in.at(id); s.parent != 0 || s.proto != proto {
			t.Errorf("prototype %d leads to %v", proto, *s)
		}
	}
	for i, s := range f.in.all {
		if s.next != nil && len(s.next) == 0 {
			t.Errorf("shape %d has a map that it needs not", i+1)
		}
		for name, id := range s.next {
			led[id]++
			if kid := f.in.at(id); kid.parent != i+1 || kid.name != name || kid.proto != s.proto {
				t.Errorf("name %d leads from %d to %v", name, i+1, *kid)
			}
		}
	}
	for id := 1; id <= f.Len(); id++ {
		if led[id] != 1 {
			t.Errorf("shape %d is led to %d times", id, led[id])
		}
	}
	if len(led) != f.Len() {
		t.Errorf("%d are led to, of %d", len(led), f.Len())
	}
}
