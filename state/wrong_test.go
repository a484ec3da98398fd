package state_test

import (
	"math"
	"testing"

	"proteus/api"
	"proteus/site"
	"proteus/state"
)

// kinds are values of all kinds that there are, and of some that there are not; each could be taken for one of another kind by its fields.
func kinds() []api.Value {
	var l []api.Value
	for _, kind := range []int{math.MinInt, -1, api.Null, api.Bool, api.Int, api.Str, api.Obj, api.Fun, 6, 7, math.MaxInt} {
		l = append(l, api.Value{Kind: kind, N: 1, S: "a"})
	}
	return l
}

// but are those of another kind than that.
func but(kind int) []api.Value {
	var l []api.Value
	for _, v := range kinds() {
		if v.Kind != kind {
			l = append(l, v)
		}
	}
	return append(l, null)
}

func noObjects() []api.Value { return but(api.Obj) }

func noStrings() []api.Value { return but(api.Str) }

func noFunctions() []api.Value { return but(api.Fun) }

// P18.2: what is no Obj has no properties.
func TestNoObjects(t *testing.T) {
	for _, v := range noObjects() {
		for _, deed := range []func(m machine) bool{
			func(m machine) bool { _, is := m.Get(0, 0, v, "a"); return is },
			func(m machine) bool { return m.Set(0, 0, v, "a", null) },
			func(m machine) bool { _, is := m.GetIx(v, quoted("a")); return is },
			func(m machine) bool { _, is := m.GetIx(v, v); return is },
			func(m machine) bool { return m.SetIx(v, quoted("a"), null) },
			func(m machine) bool { return m.SetIx(v, null, null) },
			func(m machine) bool { return m.Del(v, "a") },
			func(m machine) bool { return m.DelIx(v, quoted("a")) },
			func(m machine) bool { return m.DelIx(v, integer(0)) },
		} {
			c := family(t, greatest)
			c.truth(t, false, deed)
			c.ends(t, api.Failed, api.ErrType)
			c.touched(t)
		}
	}
}

// P18.2: what is no Str names no property by index.
func TestNoStrings(t *testing.T) {
	for _, v := range noStrings() {
		for _, deed := range []func(m machine) bool{
			func(m machine) bool { _, is := m.GetIx(obj(1), v); return is },
			func(m machine) bool { return m.SetIx(obj(1), v, null) },
			func(m machine) bool { return m.SetIx(obj(99), v, null) },
			func(m machine) bool { return m.DelIx(obj(1), v) },
		} {
			c := family(t, greatest)
			c.truth(t, false, deed)
			c.ends(t, api.Failed, api.ErrType)
			c.touched(t)
		}
	}
}

// P18.2: objects that there are not are got from, and let go of, without a failure.
func TestObjectsThatThereAreNot(t *testing.T) {
	c := family(t, greatest)
	for _, o := range []int{0, -1, 4, 99, 201, math.MaxInt, math.MinInt, 1<<32 + 1} {
		c.value(t, null, true, func(m machine) (api.Value, bool) { return m.Get(0, 0, obj(o), "a") })
		c.value(t, null, true, func(m machine) (api.Value, bool) { return m.GetIx(obj(o), quoted("a")) })
		c.truth(t, true, func(m machine) bool { return m.Del(obj(o), "a") })
		c.truth(t, true, func(m machine) bool { return m.DelIx(obj(o), quoted("a")) })
	}
	c.touched(t)
}

// P18.2: an Obj's own bytes, a Str's own number play no part.
func TestFieldsThatPlayNoPart(t *testing.T) {
	c := family(t, greatest)
	o, k := api.Value{Kind: api.Obj, N: 1, S: "x"}, api.Value{Kind: api.Str, N: 7, S: "a"}
	c.value(t, integer(1), true, func(m machine) (api.Value, bool) { return m.Get(0, 0, o, "a") })
	c.value(t, integer(1), true, func(m machine) (api.Value, bool) { return m.GetIx(o, k) })
	c.truth(t, true, func(m machine) bool { return m.SetIx(o, k, api.Value{Kind: 9, N: 8, S: "s"}) })
	c.value(t, api.Value{Kind: 9, N: 8, S: "s"}, true, func(m machine) (api.Value, bool) { return m.Get(0, 0, o, "a") })
	c.truth(t, true, func(m machine) bool { return m.Enter(api.Value{Kind: api.Fun, N: -4, S: "x"}) })
	c.value(t, o, true, func(m machine) (api.Value, bool) { return m.Built(api.BSetProto, []api.Value{o, null}) })
	c.truth(t, true, func(m machine) bool { return m.DelIx(o, k) })
	c.touched(t, 1, 1)
}

// P18.2: sites that there are not, and functions, are no sites; so is each of no table.
func TestSitesThatThereAreNot(t *testing.T) {
	c := family(t, greatest)
	for _, n := range []int{-1, 1, 2, 5, 99, math.MaxInt, math.MinInt} {
		for _, at := range [][2]int{{n, 0}, {0, n}, {n, n}} {
			c.value(t, integer(1), true, func(m machine) (api.Value, bool) { return m.Get(at[0], at[1], obj(3), "a") })
			c.truth(t, true, func(m machine) bool { return m.Set(at[0], at[1], obj(3), "z", integer(n)) })
		}
	}
	c.touched(t, 3)
}

// P18.4: nil States, and such as no call made.
func TestNoState(t *testing.T) {
	for _, s := range []*state.State{nil, {}, new(state.State)} {
		for range 2 {
			for i, deed := range allDeeds() {
				switch got := deed(s).(type) {
				case bool:
					if got {
						t.Error("true is answered by deed", i)
					}
				case api.Value:
					if got != null {
						t.Error(got)
					}
				case answered:
					if got != falseNull {
						t.Error(got)
					}
				}
			}
			if s.Grow(obj(1), 1, null) || s.Steps() != 0 || s.Touched() != nil || s.Heap() != nil || s.Dump() != "" || !s.Over() || told(s.Outcome()) != told(api.Outcome{}) || s.Outcome().Out != nil {
				t.Error("something is answered")
			}
		}
	}
}

// P18.2, P18.4: where it is over, each call answers false, or a Null; neither the heap nor a site is touched.
func TestOverIsOver(t *testing.T) {
	for _, end := range []func(s *state.State){
		func(s *state.State) { s.Finish(null) },
		func(s *state.State) { s.Tick(1 << 21) },
		func(s *state.State) { s.Enter(null) },
	} {
		x := site.New([]int{1})
		s := state.New(1, 5, greatest, 20, x)
		s.Make()
		s.Set(0, 0, obj(1), "a", integer(1))
		s.SetGlobal(0, integer(4))
		s.Print(integer(3))
		to := s.Heap().Next(s.Heap().Shape(1), "g")
		end(s)
		before, heap := s.Dump(), s.Heap().Dump()
		hits, misses := x.Counts()
		for i, deed := range allDeeds() {
			switch got := deed(s); got {
			case false, null, falseNull, nil:
			default:
				t.Errorf("deed %d answers %v", i, got)
			}
		}
		if s.Grow(obj(1), to, null) || s.Dump() != before || s.Heap().Dump() != heap || s.Global(0) != null {
			t.Error("it is", s.Dump())
		}
		if h, m := x.Counts(); h != hits || m != misses {
			t.Error("sites were used")
		}
		if list(s.Touched()) != " 1" || list(s.Touched()) != "" {
			t.Error("what changed ahead of the end is not told just once")
		}
	}
}

// A struct that was copied is the same State.
func TestCopyIsTheSame(t *testing.T) {
	s := state.New(1, 5, greatest, 20, nil)
	same := *s
	same.Tick(2)
	s.Make()
	same.Finish(integer(1))
	if s.Steps() != 2 || !s.Over() || same.Dump() != s.Dump() {
		t.Error(s.Dump(), same.Dump())
	}
}

// P18.5: two states have nothing in common.
func TestTwoStates(t *testing.T) {
	one, two := state.New(1, 5, greatest, 20, nil), state.New(1, 5, greatest, 20, nil)
	before := two.Dump()
	one.Make()
	one.Set(0, 0, obj(1), "a", null)
	one.SetGlobal(0, integer(1))
	one.Print(null)
	one.Enter(fun(0))
	one.Tick(9)
	if two.Dump() != before || two.Over() || two.Touched() != nil || two.Steps() != 0 {
		t.Error(two.Dump())
	}
}
