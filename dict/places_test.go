package dict

import (
	"strconv"
	"testing"

	"proteus/api"
)

// The chapter's ways: never is half of the places holes behind a call, a hole keeps nothing of what was there, and names lead to their places.
func TestPlaces(t *testing.T) {
	for _, step := range []int{1, 3, 7, 11, 60} {
		d := New()
		for i := range 61 {
			d.Set(strconv.Itoa(i), api.Value{Kind: api.Int, N: i})
		}
		for i := range 61 {
			d.Delete(strconv.Itoa(i * step % 61))
			if i%5 == 0 {
				d.Set("x"+strconv.Itoa(i), api.Value{Kind: api.Str, S: "x"})
			}
			checkPlaces(t, d)
			checkPlaces(t, d.Clone())
			if n := d.Clone().in.holes(); n != 0 {
				t.Errorf("a clone has %d holes", n)
			}
		}
	}
}

func checkPlaces(t *testing.T, d *Dict) {
	t.Helper()
	holes := 0
	for i, at := range d.in.list {
		if at == (place{}) {
			holes++
		} else if n, there := d.in.of[at.name]; !at.taken || !there || n != i {
			t.Errorf("place %d is %v, and its name leads to %d, %v", i, at, n, there)
		}
	}
	if n := len(d.in.list); n > 0 && 2*holes >= n || holes != d.in.holes() {
		t.Errorf("of %d places %d are holes, by count %d", n, holes, d.in.holes())
	}
}
