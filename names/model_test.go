package names_test

import (
	"math"
	"slices"
	"testing"

	"proteus/names"
)

// noNumbers are numbers that no text has in a Table of n texts.
func noNumbers(n int) []int {
	return []int{0, -1, -2, -n - 1, n + 1, n + 2, 2*n + 1, math.MaxInt, math.MaxInt - 1, math.MinInt, math.MinInt + 1, math.MaxInt32 + 1, 1 << 32, 1<<32 + 1}
}

// twin is a Table, and the same as a plain list of texts.
type twin struct {
	x    *names.Table
	list []string
}

func newTwin() *twin { return &twin{x: names.New()} }

// ask asks for the number of a text in both.
func (w *twin) ask(t *testing.T, s string) {
	t.Helper()
	want := slices.Index(w.list, s) + 1
	if want == 0 {
		w.list = append(w.list, s)
		want = len(w.list)
	}
	if id := w.x.Of(s); id != want {
		t.Errorf("Of(%q) is %d, not %d", s, id, want)
	}
	w.isLong(t)
}

func (w *twin) isLong(t *testing.T) {
	t.Helper()
	if n := w.x.Len(); n != len(w.list) {
		t.Errorf("Len is %d, not %d", n, len(w.list))
	}
}

// hold asks all that can be asked without a change: twice, so that a change would show. Others are texts that may have no number.
func (w *twin) hold(t *testing.T, others ...string) {
	t.Helper()
	for range 2 {
		w.isLong(t)
		for i, s := range w.list {
			w.finds(t, s, i+1)
			if got, is := w.x.Text(i + 1); got != s || !is {
				t.Errorf("Text(%d) is %q, %v, not %q", i+1, got, is, s)
			}
		}
		for _, s := range others {
			w.finds(t, s, slices.Index(w.list, s)+1)
		}
		for _, id := range noNumbers(len(w.list)) {
			if got, is := w.x.Text(id); got != "" || is {
				t.Errorf("Text(%d) is %q, %v, of %d", id, got, is, len(w.list))
			}
		}
	}
}

func (w *twin) finds(t *testing.T, s string, want int) {
	t.Helper()
	if id, is := w.x.Find(s); id != want || is != (want > 0) {
		t.Errorf("Find(%q) is %d, %v, not %d", s, id, is, want)
	}
}
