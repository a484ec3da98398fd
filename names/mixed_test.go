package names_test

import (
	"strconv"
	"testing"
)

// P10.3: all rows of six texts out of five, all asked behind each.
func TestAllShortRows(t *testing.T) {
	texts := []string{"a", "", "b", "ab", "\x00"}
	const deeds = 6
	rows := 1
	for range deeds {
		rows *= len(texts)
	}
	for row := range rows {
		w := newTwin()
		for i, r := 0, row; i < deeds; i, r = i+1, r/len(texts) {
			w.ask(t, texts[r%len(texts)])
			w.hold(t, texts...)
		}
		if t.Failed() {
			t.Fatalf("row %d", row)
		}
	}
}

// dice are numbers that look mixed, the same ones each time.
type dice uint64

func (d *dice) below(n int) int {
	*d = *d*6364136223846793005 + 1442695040888963407
	return int(uint64(*d) >> 33 % uint64(n))
}

func someTexts(n int) []string {
	out := []string{""}
	for i := range n {
		out = append(out, strconv.Itoa(i))
	}
	return out
}

// P10.3: mixed rows over few and many texts.
func TestMixed(t *testing.T) {
	for seed := range 40 {
		d := dice(seed)
		texts := someTexts(1 + seed*3)
		w := newTwin()
		for range 200 {
			w.ask(t, texts[d.below(len(texts))])
			w.hold(t, texts...)
		}
		if t.Failed() {
			t.Fatalf("seed %d", seed)
		}
	}
}

// P10.3: several Tables side by side: what is done to one does not show in another.
func TestSideBySide(t *testing.T) {
	d := dice(7)
	texts := someTexts(30)
	var all []*twin
	for range 6 {
		all = append(all, newTwin())
	}
	for range 600 {
		all[d.below(len(all))].ask(t, texts[d.below(len(texts))])
		for _, w := range all {
			w.hold(t, texts...)
		}
	}
	if all[0].list[0] == all[1].list[0] && all[1].list[0] == all[2].list[0] {
		t.Error("the test's Tables are too much alike")
	}
}

// P10.3: two Tables that are asked for the same give the same numbers.
func TestSameRowSameNumbers(t *testing.T) {
	d := dice(3)
	texts := someTexts(50)
	one, other := newTwin(), newTwin()
	for range 500 {
		s := texts[d.below(len(texts))]
		if a, b := one.x.Of(s), other.x.Of(s); a != b {
			t.Fatalf("%q is %d and %d", s, a, b)
		}
	}
}
