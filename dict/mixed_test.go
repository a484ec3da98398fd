package dict_test

import (
	"strconv"
	"testing"

	"proteus/api"
)

// P9.4: all rows of seven deeds on three names, each held against the model at its end: shorter ones are on the way.
func TestAllShortRows(t *testing.T) {
	names := []string{"a", "", "b"}
	const deeds = 7
	rows := 1
	for range deeds {
		rows *= 2 * len(names)
	}
	for row := range rows {
		w := newTwin()
		for i, r := 0, row; i < deeds; i, r = i+1, r/(2*len(names)) {
			name := names[r%len(names)]
			if r/len(names)%2 == 0 {
				w.set(t, name, integer(i))
			} else {
				w.drop(t, name)
			}
		}
		w.hold(t, names...)
		if t.Failed() {
			t.Fatalf("row %d", row)
		}
	}
}

// dice are numbers that look mixed, the same ones each time.
type dice uint64

func (d *dice) below(n int) int {
	*d = *d*6364136223846793005 + 1442695040888963407
	return int(uint64(*d) >> 33 % uint64(n))
}

func someNames(n int) []string {
	var out []string
	for i := range n {
		out = append(out, strconv.Itoa(i))
	}
	out[0] = ""
	return out
}

// P9.4: mixed Sets and Deletes, now more of the ones, now of the others, all asked at every step; clones go on in their Dicts' stead at times.
func TestMixed(t *testing.T) {
	for seed := range 40 {
		d := dice(seed)
		names := someNames(2 + seed)
		w := newTwin()
		var left []*twin
		for step := range 600 {
			name := names[d.below(len(names))]
			if d.below(10) < 2+step/100 {
				w.drop(t, name)
			} else {
				w.set(t, name, integer(step))
			}
			w.hold(t, names...)
			if d.below(50) == 0 {
				left = append(left, w)
				w = &twin{w.d.Clone(), append(pairs(nil), w.m...)}
				w.hold(t, names...)
			}
		}
		for _, old := range left {
			old.hold(t, names...)
		}
	}
}

// P9.1, P9.2: very many come, most go, in several orders; others come where holes were.
func TestManyHoles(t *testing.T) {
	const n = 300
	names := someNames(n)
	for _, step := range []int{1, 7, 149, 299} {
		w := newTwin()
		for i := range n {
			w.set(t, names[i], integer(i))
			w.hold(t)
		}
		for i := range n - 5 {
			w.drop(t, names[i*step%n])
			w.hold(t, names[i*step%n])
		}
		for i := range n {
			w.set(t, names[i], integer(-i))
			w.hold(t)
		}
		for i := range n {
			w.drop(t, names[n-1-i])
			w.hold(t, names...)
		}
		for i := range 20 {
			w.set(t, "x"+names[i], integer(i))
			w.hold(t, names...)
		}
	}
}

// P9.1: one comes, and the oldest goes, for so long that lists which only grow, or a pressing at each Delete, would be felt.
func TestLongQueue(t *testing.T) {
	const room, rounds = 2000, 300000
	w := newTwin()
	for i := range rounds {
		if !w.d.Set(strconv.Itoa(i), integer(i)) {
			t.Fatal("Set", i)
		}
		if i < room {
			continue
		}
		if s := strconv.Itoa(i - room); !w.d.Delete(s) || w.d.Delete(s) || w.d.Len() != room {
			t.Fatal("Delete", s, w.d.Len())
		}
		if s, is := w.d.Key(0); i%1000 == 0 && (!is || s != strconv.Itoa(i-room+1)) {
			t.Fatal("Key", i, s)
		}
	}
	for i := rounds - room; i < rounds; i++ {
		w.m = append(w.m, pair{strconv.Itoa(i), integer(i)})
	}
	w.hold(t, "0", "", strconv.Itoa(rounds))
}

// P9.4: the value that was set last is got, however often one is set.
func TestLastOfMany(t *testing.T) {
	w := newTwin()
	for i := range 1000 {
		w.set(t, "a", integer(i))
		w.set(t, "b", api.Value{Kind: i % 6, N: i, S: strconv.Itoa(i)})
		w.set(t, "a", str(strconv.Itoa(i)))
		w.hold(t, "")
	}
}
