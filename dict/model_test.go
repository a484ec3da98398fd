package dict_test

import (
	"slices"
	"testing"

	"proteus/api"
	"proteus/dict"
)

func integer(n int) api.Value { return api.Value{Kind: api.Int, N: n} }
func str(s string) api.Value  { return api.Value{Kind: api.Str, S: s} }

// pair is a property of the model.
type pair struct {
	name string
	v    api.Value
}

// pairs are the chapter's words, done on a plain list.
type pairs []pair

func (l pairs) find(name string) int {
	return slices.IndexFunc(l, func(p pair) bool { return p.name == name })
}

func (l *pairs) set(name string, v api.Value) bool {
	if i := l.find(name); i >= 0 {
		(*l)[i].v = v
		return false
	}
	*l = append(*l, pair{name, v})
	return true
}

func (l *pairs) drop(name string) bool {
	i := l.find(name)
	if i < 0 {
		return false
	}
	var out pairs
	for j, p := range *l {
		if j != i {
			out = append(out, p)
		}
	}
	*l = out
	return true
}

func (l pairs) names() []string {
	var out []string
	for _, p := range l {
		out = append(out, p.name)
	}
	return out
}

// hold asks all of a Dict: it has those properties in that order, and none of the absent names.
func hold(t *testing.T, d *dict.Dict, want pairs, absent ...string) {
	t.Helper()
	if d == nil {
		t.Fatal("there is no Dict")
	}
	if got := d.Len(); got != len(want) {
		t.Fatalf("Len is %d, not %d", got, len(want))
	}
	if got := d.Names(); !slices.Equal(got, want.names()) {
		t.Fatalf("Names are %q, not %q", got, want.names())
	}
	for i, p := range want {
		if s, is := d.Key(i); s != p.name || !is {
			t.Fatalf("Key(%d) is %q, %v, not %q", i, s, is, p.name)
		}
		if v, is := d.Get(p.name); v != p.v || !is {
			t.Fatalf("Get(%q) is %v, %v, not %v", p.name, v, is, p.v)
		}
	}
	for _, i := range []int{len(want), len(want) + 1, 2*len(want) + 2, -1, -len(want), -len(want) - 1} {
		if i >= 0 && i < len(want) {
			continue
		}
		if s, is := d.Key(i); s != "" || is {
			t.Fatalf("Key(%d) of %d is %q, %v", i, len(want), s, is)
		}
	}
	for _, name := range absent {
		if v, is := d.Get(name); v != (api.Value{}) || is {
			t.Fatalf("Get(%q) is %v, %v, and there is none", name, v, is)
		}
	}
}

// twin is a Dict and its model.
type twin struct {
	d *dict.Dict
	m pairs
}

func newTwin() *twin { return &twin{d: dict.New()} }

func (w *twin) set(t *testing.T, name string, v api.Value) {
	t.Helper()
	want := w.m.set(name, v)
	if got := w.d.Set(name, v); got != want {
		t.Fatalf("Set(%q) is %v, not %v", name, got, want)
	}
}

func (w *twin) drop(t *testing.T, name string) {
	t.Helper()
	want := w.m.drop(name)
	if got := w.d.Delete(name); got != want {
		t.Fatalf("Delete(%q) is %v, not %v", name, got, want)
	}
}

func (w *twin) hold(t *testing.T, absent ...string) {
	t.Helper()
	var gone []string
	for _, name := range absent {
		if w.m.find(name) < 0 {
			gone = append(gone, name)
		}
	}
	hold(t, w.d, w.m, gone...)
}
