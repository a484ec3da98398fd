package state_test

import (
	"strings"
	"testing"

	"proteus/api"
	"proteus/site"
	"proteus/state"
)

func (c *crowd) get(t *testing.T, o int, name string, want api.Value) {
	t.Helper()
	for range 2 {
		c.value(t, want, true, func(m machine) (api.Value, bool) { return m.Get(3, 1, obj(o), name) })
	}
	c.value(t, want, true, func(m machine) (api.Value, bool) { return m.GetIx(obj(o), quoted(name)) })
}

// P18.2: objects are made, by numbers from 1 on, up to the limit.
func TestMake(t *testing.T) {
	c := newCrowd(0, 5, api.Limits{Objects: 3})
	c.objects(t, 3)
	c.dump(t, "#1 #0\n#2 #0\n#3 #0\nG\nS 0\n")
	c.touched(t)
	c.value(t, null, false, machine.Make)
	c.ends(t, api.LimitHit, api.LimObjects)
	c.dump(t, "#1 #0\n#2 #0\n#3 #0\nG\nS 0\n")
}

// P18.2: properties by name and by index, of the object itself, of its chain, and of none.
func TestGetAndSet(t *testing.T) {
	c := roomy()
	c.objects(t, 3)
	c.set(t, 1, "x", integer(1))
	c.truth(t, true, func(m machine) bool { return m.SetIx(obj(1), quoted("y"), integer(2)) })
	c.truth(t, true, func(m machine) bool { return m.SetIx(obj(1), quoted(""), integer(3)) })
	c.under(t, 2, 1)
	c.under(t, 3, 2)
	for o := 1; o <= 3; o++ {
		c.get(t, o, "x", integer(1))
		c.get(t, o, "y", integer(2))
		c.get(t, o, "", integer(3))
		c.get(t, o, "z", null)
	}
	c.set(t, 2, "x", quoted("near"))
	c.get(t, 3, "x", quoted("near"))
	c.get(t, 1, "x", integer(1))
	c.truth(t, true, func(m machine) bool { return m.SetIx(obj(1), quoted("x"), null) })
	c.get(t, 1, "x", null)
	c.dump(t, "#1 #0 x:null y:2 :3\n#2 #1 x:\"near\"\n#3 #2\nG null null null\nS 0\n")
}

// P18.2: at one site, fresh and then known: it is as at none.
func TestGetAndSetAtSites(t *testing.T) {
	c := roomy()
	c.objects(t, 8)
	for round := range 3 {
		for o := 1; o <= 8; o++ {
			for f, name := range []string{"a", "b", "c"} {
				v := integer(100*round + 10*o + f)
				c.truth(t, true, func(m machine) bool { return m.Set(3, f, obj(o), name, v) })
				c.value(t, v, true, func(m machine) (api.Value, bool) { return m.Get(0, f, obj(o), name) })
			}
			c.set(t, o, strings.Repeat("n", o%6+1), null)
		}
	}
	if hits, _ := countsOf(t); hits == 0 {
		t.Error("the test's sites are of no use")
	}
}

// countsOf does some of the above at a table that is looked at.
func countsOf(t *testing.T) (int, int) {
	t.Helper()
	x := site.New([]int{1})
	s := state.New(0, 5, greatest, 150, x)
	for range 3 {
		o, _ := s.Make()
		s.Set(0, 0, o, "a", null)
	}
	return x.Counts()
}

// P18.2: properties go; that there is none is no failure.
func TestDel(t *testing.T) {
	c := roomy()
	c.objects(t, 2)
	for _, name := range []string{"a", "b", "c", ""} {
		c.set(t, 1, name, integer(1))
	}
	c.under(t, 2, 1)
	c.touched(t, 1, 1, 1, 1, 2)
	c.truth(t, true, func(m machine) bool { return m.Del(obj(1), "b") })
	c.truth(t, true, func(m machine) bool { return m.Del(obj(1), "b") })
	c.truth(t, true, func(m machine) bool { return m.Del(obj(2), "a") })
	c.touched(t, 1)
	c.truth(t, true, func(m machine) bool { return m.DelIx(obj(1), quoted("")) })
	c.truth(t, true, func(m machine) bool { return m.DelIx(obj(1), quoted("")) })
	c.truth(t, true, func(m machine) bool { return m.DelIx(obj(2), quoted("a")) })
	c.truth(t, true, func(m machine) bool { return m.DelIx(obj(1), quoted("a")) })
	c.touched(t, 1, 1)
	c.dump(t, "#1 #0 c:1\n#2 #1\nG null null null\nS 0\n")
	c.get(t, 2, "c", integer(1))
	c.get(t, 2, "a", null)
	c.truth(t, true, func(m machine) bool { return m.Del(obj(77), "a") })
	c.truth(t, true, func(m machine) bool { return m.DelIx(obj(0), quoted("a")) })
	c.touched(t)
}

// P18.2: Grow is the property that a shape has more than another one.
func TestGrow(t *testing.T) {
	for _, x := range tables() {
		s := state.New(0, 5, greatest, 20, x)
		o, _ := s.Make()
		p, _ := s.Make()
		h := s.Heap()
		to := h.Next(h.Shape(1), "x")
		s.Set(0, 0, p, "other", null)
		s.Touched()
		if !s.Grow(o, to, integer(5)) || h.Shape(1) != to {
			t.Fatal("it does not grow", h.Shape(1))
		}
		more := h.Next(to, "y")
		if !s.Grow(o, more, quoted("v")) || s.Over() {
			t.Fatal("it does not grow twice")
		}
		if d := s.Dump(); d != "#1 #0 x:5 y:\"v\"\n#2 #0 other:null\nG\nS 0\n" {
			t.Error(d)
		}
		if l := s.Touched(); list(l) != " 1 1" {
			t.Error(l)
		}
	}
}

// P18.2: what Grow refuses, and how it is over then.
func TestGrowFails(t *testing.T) {
	for _, x := range []struct {
		grow func(s *state.State, to int) bool
		e    api.Errno
	}{
		{func(s *state.State, to int) bool { return s.Grow(null, to, null) }, api.ErrType},
		{func(s *state.State, to int) bool { return s.Grow(integer(1), to, null) }, api.ErrType},
		{func(s *state.State, to int) bool { return s.Grow(fun(1), to, null) }, api.ErrType},
		{func(s *state.State, to int) bool { return s.Grow(obj(9), to, null) }, api.ErrNone},
		{func(s *state.State, to int) bool { return s.Grow(obj(0), to, null) }, api.ErrNone},
		{func(s *state.State, to int) bool { return s.Grow(obj(1), 0, null) }, api.ErrArg},
		{func(s *state.State, to int) bool { return s.Grow(obj(1), -1, null) }, api.ErrArg},
		{func(s *state.State, to int) bool { return s.Grow(obj(1), 99, null) }, api.ErrArg},
		{func(s *state.State, to int) bool { return s.Grow(obj(2), to, null) }, api.ErrArg},
		{func(s *state.State, to int) bool { return s.Grow(obj(3), to, null) }, api.ErrArg},
		{func(s *state.State, to int) bool { return s.Grow(obj(1), s.Heap().Shape(1), null) }, api.ErrArg},
		{func(s *state.State, to int) bool { return s.Grow(obj(1), to, null) }, api.LimProps},
	} {
		s := state.New(0, 5, api.Limits{Objects: 3, Props: 1}, 20, nil)
		for range 3 {
			s.Make()
		}
		s.Set(0, 0, obj(1), "a", null)
		s.Set(0, 0, obj(3), "a", null)
		s.Del(obj(3), "a")
		s.Touched()
		to := s.Heap().Next(s.Heap().Shape(1), "b")
		before := s.Dump()
		kind := api.Failed
		if x.e == api.LimProps {
			kind = api.LimitHit
		}
		if x.grow(s, to) || told(s.Outcome()) != told(api.Outcome{Kind: kind, Err: x.e}) {
			t.Errorf("error %d: %s", int(x.e), told(s.Outcome()))
		}
		if s.Dump() != before || s.Touched() != nil || s.Heap().Shape(1) == to {
			t.Errorf("error %d: something has changed", int(x.e))
		}
	}
}

// P18.2: heap's errors of a set: no such object, and no more properties.
func TestSetFails(t *testing.T) {
	for _, x := range []struct {
		deed func(m machine) bool
		kind int
		e    api.Errno
	}{
		{func(m machine) bool { return m.Set(0, 0, obj(7), "a", null) }, api.Failed, api.ErrNone},
		{func(m machine) bool { return m.Set(0, 0, obj(0), "a", null) }, api.Failed, api.ErrNone},
		{func(m machine) bool { return m.Set(0, 0, obj(-1), "a", null) }, api.Failed, api.ErrNone},
		{func(m machine) bool { return m.SetIx(obj(7), quoted("a"), null) }, api.Failed, api.ErrNone},
		{func(m machine) bool { return m.Set(0, 0, obj(1), "c", null) }, api.LimitHit, api.LimProps},
		{func(m machine) bool { return m.SetIx(obj(1), quoted("c"), null) }, api.LimitHit, api.LimProps},
	} {
		c := newCrowd(1, 5, api.Limits{Objects: 2, Props: 2})
		c.objects(t, 2)
		c.set(t, 1, "a", integer(1))
		c.set(t, 1, "b", integer(2))
		c.set(t, 1, "a", integer(3))
		c.touched(t, 1, 1)
		c.truth(t, false, x.deed)
		c.ends(t, x.kind, x.e)
		c.touched(t)
	}
}

// P18.4: what changes, in its order, each as often; what does not is not told.
func TestTouched(t *testing.T) {
	c := roomy()
	c.objects(t, 3)
	c.touched(t)
	c.set(t, 2, "a", null)
	c.set(t, 1, "a", null)
	c.set(t, 2, "b", null)
	c.set(t, 2, "a", integer(1))
	c.touched(t, 2, 1, 2)
	c.truth(t, true, func(m machine) bool { return m.SetIx(obj(3), quoted("a"), null) })
	c.truth(t, true, func(m machine) bool { return m.SetIx(obj(3), quoted("a"), integer(2)) })
	c.under(t, 1, 3)
	c.under(t, 1, 3)
	c.touched(t, 3, 1, 1)
	c.value(t, obj(1), true, func(m machine) (api.Value, bool) { return m.Built(api.BSetProto, []api.Value{obj(1), null}) })
	c.touched(t, 1)
	for _, args := range [][]api.Value{{obj(1)}, {obj(1), integer(0)}, {obj(1), quoted("a")}} {
		for op := api.BCount; op <= api.BProto; op++ {
			if n := []int{1, 2, 2, 1}[op-1]; n == len(args) && (n == 1 || args[1].Kind == op) {
				c.do(t, func(m machine) any { return with(m.Built(op, args)) })
			}
		}
	}
	c.get(t, 1, "a", null)
	c.truth(t, true, func(m machine) bool { return m.Print(obj(1)) })
	c.touched(t)
	c.truth(t, true, func(m machine) bool { return m.Del(obj(2), "b") })
	c.set(t, 1, "z", null)
	c.truth(t, true, func(m machine) bool { return m.DelIx(obj(2), quoted("a")) })
	c.truth(t, true, func(m machine) bool { return m.DelIx(obj(2), quoted("a")) })
	c.quiet(t, func(m machine) { m.Finish(null) })
	c.touched(t, 2, 1, 2)
	c.dead(t)
	c.touched(t)
}

// P18.4: a list that was told is nobody else's.
func TestTouchedIsItsOwn(t *testing.T) {
	s := state.New(0, 5, greatest, 20, nil)
	o, _ := s.Make()
	for _, name := range []string{"a", "b", "c"} {
		s.Set(0, 0, o, name, null)
	}
	first := s.Touched()
	s.Del(o, "a")
	s.Make()
	s.Set(0, 0, obj(2), "a", null)
	if list(first) != " 1 1 1" {
		t.Error(first)
	}
	first[0] = 9
	_ = append(first[:1], 8)
	if l := s.Touched(); list(l) != " 1 2" {
		t.Error(l)
	}
}
