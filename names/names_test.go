package names_test

import (
	"strconv"
	"strings"
	"testing"

	"proteus/names"
)

// P10.1: the chapter's example, and what else can be asked behind it.
func TestExample(t *testing.T) {
	x := names.New()
	if a, b, again := x.Of("a"), x.Of("b"), x.Of("a"); a != 1 || b != 2 || again != 1 {
		t.Error(a, b, again)
	}
	if x.Len() != 2 {
		t.Error("Len", x.Len())
	}
	if id, is := x.Find("b"); id != 2 || !is {
		t.Error("Find", id, is)
	}
	if s, is := x.Text(1); s != "a" || !is {
		t.Error("Text", s, is)
	}
}

// P10.1
func TestNew(t *testing.T) {
	w := newTwin()
	w.hold(t, "", "a", "\x00")
	if names.New() == names.New() {
		t.Error("two are one")
	}
}

// P10.1: several, each once and again.
func TestOf(t *testing.T) {
	x := names.New()
	for i, step := range []struct {
		s       string
		id, len int
	}{
		{"x", 1, 1}, {"x", 1, 1}, {"y", 2, 2}, {"x", 1, 2}, {"z", 3, 3}, {"y", 2, 3}, {"z", 3, 3},
		{"xy", 4, 4}, {"x", 1, 4}, {"", 5, 5}, {"xy", 4, 5}, {"", 5, 5}, {"a", 6, 6}, {"x", 1, 6},
	} {
		if id := x.Of(step.s); id != step.id {
			t.Errorf("step %d: Of(%q) is %d, not %d", i, step.s, id, step.id)
		}
		if n := x.Len(); n != step.len {
			t.Errorf("step %d: Len is %d, not %d", i, n, step.len)
		}
	}
}

// P10.1: Find and Text give out no numbers.
func TestAskingChangesNothing(t *testing.T) {
	w := newTwin()
	for _, s := range []string{"a", "b", "c"} {
		w.hold(t, "c", "d", "")
		w.ask(t, s)
		w.hold(t, "c", "d", "")
	}
	if _, is := w.x.Find("d"); is || w.x.Len() != 3 {
		t.Error("Find made a number", w.x.Len())
	}
	if id := w.x.Of("e"); id != 4 {
		t.Error("Of(e) is", id)
	}
	if id := w.x.Of("d"); id != 5 {
		t.Error("Of(d) is", id)
	}
}

// P10.1: the empty text is one like any other, the first or behind others.
func TestEmptyText(t *testing.T) {
	w := newTwin()
	w.ask(t, "")
	w.hold(t, "a")
	w.ask(t, "a")
	w.ask(t, "")
	w.hold(t, "b")
	w = newTwin()
	w.ask(t, "a")
	w.hold(t, "")
	w.ask(t, "")
	w.hold(t, "b")
	w.ask(t, "b")
	w.ask(t, "")
	w.hold(t)
}

// likeTexts are many that are nearly one another.
func likeTexts() []string {
	out := []string{"", " ", "\n", "\x00", "\x00\x00", "\xff", "\xff\xfe", "\xc3\xa4", "a\xcc\x88", "\xc3", "\xef\xbf\xbd", "A", "a", "0", "1", "01", "-1", "a\x00", "\x00a", " a", "a ", "é", "日本"}
	for n := range 40 {
		out = append(out, strings.Repeat("x", n+1), strings.Repeat("\x00", n+3))
	}
	long := strings.Repeat("long", 1000)
	for b := range 256 {
		out = append(out, "same"+string([]byte{byte(b)}), long+string([]byte{byte(b)}))
	}
	return append(out, long, long[1:], long[:len(long)-1])
}

// P10.1, P10.3: texts that differ in their last byte alone, in length alone, in bytes that are no letters.
func TestTextsThatAreNearlyOne(t *testing.T) {
	w := newTwin()
	for i, s := range likeTexts() {
		w.finds(t, s, 0)
		w.ask(t, s)
		if len(w.list) != i+1 {
			t.Fatalf("the test's texts are not all different: %q", s)
		}
	}
	w.hold(t, "same", "x\x00", strings.Repeat("x", 41), "longlong")
	for _, s := range likeTexts() {
		w.ask(t, s)
	}
	w.hold(t)
}

// P10.3: a text that is put together anew, or cut out of another, is the same text.
func TestTextsInOtherMemory(t *testing.T) {
	w := newTwin()
	bytes := []byte("abcabc")
	w.ask(t, string(bytes[:3]))
	bytes[0] = 'z'
	w.hold(t, "zbc")
	w.ask(t, string(bytes[3:]))
	w.ask(t, strings.Join([]string{"a", "b", "c"}, ""))
	if w.x.Len() != 1 {
		t.Error("one text has several numbers", w.x.Len())
	}
	w.ask(t, "zbc")
	w.hold(t)
}

// P10.1, P10.3: very many texts.
func TestVeryMany(t *testing.T) {
	const many = 200000
	x := names.New()
	for i := range many {
		if id := x.Of(strconv.Itoa(i * 7)); id != i+1 || x.Len() != i+1 {
			t.Fatalf("the %d-th is %d, of %d", i, id, x.Len())
		}
	}
	for i := many - 1; i >= 0; i-- {
		s := strconv.Itoa(i * 7)
		if id := x.Of(s); id != i+1 {
			t.Fatalf("Of(%q) is %d, not %d", s, id, i+1)
		}
		if id, is := x.Find(s); id != i+1 || !is {
			t.Fatalf("Find(%q) is %d, %v", s, id, is)
		}
		if got, is := x.Text(i + 1); got != s || !is {
			t.Fatalf("Text(%d) is %q, %v", i+1, got, is)
		}
		if id, is := x.Find(s + "x"); id != 0 || is {
			t.Fatalf("Find(%q) is %d, %v", s+"x", id, is)
		}
	}
	for _, id := range noNumbers(many) {
		if s, is := x.Text(id); s != "" || is {
			t.Errorf("Text(%d) is %q, %v", id, s, is)
		}
	}
	if x.Len() != many {
		t.Error("Len", x.Len())
	}
}

// P10.2: each call on a nil Table and on one that no call made, and again behind an Of.
func TestNoTable(t *testing.T) {
	var none names.Table
	for what, x := range map[string]*names.Table{"nil": nil, "zero": {}, "new": new(names.Table), "var": &none} {
		for round := range 3 {
			if x.Len() != 0 {
				t.Errorf("%s, round %d: Len is %d", what, round, x.Len())
			}
			for _, s := range []string{"", "a", "b"} {
				if id, is := x.Find(s); id != 0 || is {
					t.Errorf("%s, round %d: Find(%q) is %d, %v", what, round, s, id, is)
				}
			}
			for _, id := range append(noNumbers(1), 1) {
				if s, is := x.Text(id); s != "" || is {
					t.Errorf("%s, round %d: Text(%d) is %q, %v", what, round, id, s, is)
				}
			}
			for _, s := range []string{"a", "", "a"} {
				if id := x.Of(s); id != 0 {
					t.Errorf("%s, round %d: Of(%q) is %d", what, round, s, id)
				}
			}
		}
	}
}

// P10.2: a Table that no call made takes nothing of those that were made, nor they of it.
func TestNoTableBesideOne(t *testing.T) {
	var none names.Table
	w := newTwin()
	w.ask(t, "a")
	none.Of("b")
	w.hold(t, "b")
	if _, is := none.Find("a"); is || none.Len() != 0 {
		t.Error("it has what another has")
	}
	w.ask(t, "b")
	w.hold(t)
}
