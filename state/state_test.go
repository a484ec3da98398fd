package state_test

import (
	"math"
	"slices"
	"strings"
	"testing"

	"proteus/api"
	"proteus/site"
	"proteus/state"
)

// dump says by hand what Dump is.
func (c *crowd) dump(t *testing.T, want string) {
	t.Helper()
	for _, s := range c.states {
		if got := s.Dump(); got != want {
			t.Errorf("it is\n%s\nnot\n%s", got, want)
		}
	}
}

// The chapter's example.
func TestExample(t *testing.T) {
	c := newCrowd(0, 3, greatest)
	c.truth(t, true, func(m machine) bool { return m.Tick(2) })
	c.truth(t, false, func(m machine) bool { return m.Tick(2) })
	c.ends(t, api.FuelOut, api.FuelGone)
	c.dump(t, "G\nS 3\n")
}

// P18.1: at its beginning nothing is there but globals, which are Null.
func TestNew(t *testing.T) {
	c := newCrowd(2, 10, greatest)
	c.hold(t)
	c.dump(t, "G null null\nS 0\n")
	c.touched(t)
	for _, s := range c.states {
		if o := s.Outcome(); s.Over() || o.Kind != 0 || o.Err != 0 || o.Out != nil || o.V != "" || s.Steps() != 0 || s.Touched() != nil || s.Heap().Len() != 0 {
			t.Error(o)
		}
		if s.Global(0) != null || s.Global(1) != null || s.Global(2) != null {
			t.Error("globals")
		}
	}
}

// P18.1: globals are cut to 0 from below, to MaxVars from above.
func TestGlobalsAreCut(t *testing.T) {
	for _, x := range []struct{ asked, there int }{{0, 0}, {-1, 0}, {math.MinInt, 0}, {1, 1}, {7, 7}, {23, 23}, {24, 24}, {25, 24}, {1 << 32, 24}, {math.MaxInt, 24}} {
		c := newCrowd(x.asked, 5, greatest)
		c.dump(t, "G"+strings.Repeat(" null", x.there)+"\nS 0\n")
		for i := range 30 {
			c.truth(t, i < x.there, func(m machine) bool { return m.SetGlobal(i, integer(i)) })
		}
		c.truth(t, true, func(m machine) bool { return m.Print(null) })
	}
}

// P18.1: fuel is cut as in chapter 13.
func TestFuelIsCut(t *testing.T) {
	for _, x := range []struct{ asked, there int }{{0, 0}, {-1, 0}, {math.MinInt, 0}, {1, 1}, {9, 9}, {1<<20 - 1, 1<<20 - 1}, {1 << 20, 1 << 20}, {1<<20 + 1, 1 << 20}, {1 << 40, 1 << 20}, {math.MaxInt, 1 << 20}} {
		c := newCrowd(0, x.asked, greatest)
		c.truth(t, true, func(m machine) bool { return m.Tick(x.there) })
		c.truth(t, true, func(m machine) bool { return m.Tick(0) })
		c.truth(t, false, func(m machine) bool { return m.Tick(1) })
		c.ends(t, api.FuelOut, api.FuelGone)
		if n := c.states[0].Steps(); n != x.there {
			t.Errorf("fuel %d: %d steps", x.asked, n)
		}
	}
}

// limitsAt are four numbers from one another: what is asked, and what it is cut to.
type limitsAt struct{ asked, objects, depth, props, str int }

// P18.1: limits are cut as in chapter 13; one past each is refused by the call that hits it.
func TestLimitsAreCut(t *testing.T) {
	for _, x := range []limitsAt{{0, 0, 0, 0, 0}, {-1, 0, 0, 0, 0}, {math.MinInt, 0, 0, 0, 0}, {1, 1, 1, 1, 1}, {31, 31, 31, 31, 31}, {49, 49, 49, 32, 49}, {51, 51, 50, 32, 51}, {200, 200, 50, 32, 200}, {201, 200, 50, 32, 201}, {257, 200, 50, 32, 256}, {math.MaxInt, 200, 50, 32, 256}} {
		one := api.Limits{Objects: x.asked, Depth: x.asked, Props: x.asked, Str: x.asked}
		c := newCrowd(0, 5, one)
		c.objects(t, x.objects)
		c.value(t, null, false, machine.Make)
		c.ends(t, api.LimitHit, api.LimObjects)

		c = newCrowd(0, 5, one)
		for range x.depth {
			c.truth(t, true, func(m machine) bool { return m.Enter(fun(0)) })
		}
		c.truth(t, false, func(m machine) bool { return m.Enter(fun(0)) })
		c.ends(t, api.LimitHit, api.LimDepth)

		one.Objects = 1
		c = newCrowd(0, 5, one)
		c.objects(t, 1)
		for i := range x.props {
			c.set(t, 1, "p"+strings.Repeat("x", i), integer(i))
		}
		c.truth(t, false, func(m machine) bool { return m.Set(0, 0, obj(1), "q", null) })
		c.ends(t, api.LimitHit, api.LimProps)

		c = newCrowd(0, 5, one)
		long := quoted(strings.Repeat("s", x.str))
		c.value(t, long, true, func(m machine) (api.Value, bool) { return m.Bin(api.Add, long, quoted("")) })
		c.value(t, long, true, func(m machine) (api.Value, bool) { return m.Built(api.BStr, []api.Value{long}) })
		c.value(t, null, false, func(m machine) (api.Value, bool) { return m.Bin(api.Add, long, quoted("s")) })
		c.ends(t, api.LimitHit, api.LimStr)
		c = newCrowd(0, 5, one)
		c.value(t, null, false, func(m machine) (api.Value, bool) {
			return m.Built(api.BStr, []api.Value{quoted(long.S + "s")})
		})
		c.ends(t, api.LimitHit, api.LimStr)
	}
}

// P18.1: the heap is one of the shapes that are handed in.
func TestHeapHasTheShapes(t *testing.T) {
	for _, x := range []struct{ shapes, first, second int }{{0, 0, 0}, {-1, 0, 0}, {1, 1, 0}, {2, 1, 2}, {150, 1, 2}, {math.MaxInt, 1, 2}} {
		s := state.New(0, 0, greatest, x.shapes, nil)
		o, _ := s.Make()
		h := s.Heap()
		if n := h.Shape(1); n != x.first {
			t.Errorf("of %d shapes it is %d, not %d", x.shapes, n, x.first)
		}
		s.Set(0, 0, o, "a", integer(1))
		if n := h.Shape(1); n != x.second || s.Heap() != h {
			t.Errorf("of %d shapes it is %d then, not %d", x.shapes, n, x.second)
		}
	}
}

// P18.1: properties are got and set by name at the sites of the table that is handed in; by index at none.
func TestSitesAreUsed(t *testing.T) {
	x := site.New([]int{1, 3})
	s := state.New(0, 0, greatest, 20, x)
	a, _ := s.Make()
	b, _ := s.Make()
	counted := func(hits, misses int) {
		t.Helper()
		if h, m := x.Counts(); h != hits || m != misses {
			t.Errorf("there were %d hits and %d misses, not %d and %d", h, m, hits, misses)
		}
	}
	counted(0, 0)
	if !s.Set(1, 2, a, "p", integer(1)) || !s.Set(1, 2, b, "p", integer(2)) {
		t.Error("set")
	}
	counted(1, 1)
	if v, is := s.Get(1, 0, a, "p"); !is || v != integer(1) {
		t.Error(v)
	}
	if v, is := s.Get(1, 0, b, "p"); !is || v != integer(2) {
		t.Error(v)
	}
	counted(2, 2)
	for _, z := range []struct {
		f, site int
		sets    bool
	}{{1, 2, true}, {1, 0, false}} {
		kind, l := x.State(z.f, z.site)
		if name, sets, is := x.Name(z.f, z.site); kind != site.Mono || len(l) != 1 || name != "p" || sets != z.sets || !is {
			t.Error(kind, l, name, sets, is)
		}
	}
	s.GetIx(a, quoted("p"))
	s.SetIx(a, quoted("q"), null)
	s.DelIx(a, quoted("q"))
	s.Del(b, "p")
	s.Built(api.BHas, []api.Value{a, quoted("p")})
	counted(2, 2)
	if kind, _ := x.State(0, 0); kind != site.Fresh {
		t.Error(kind)
	}
	s.Get(0, 0, integer(1), "p")
	s.Get(0, 0, a, "p")
	s.Set(0, 0, a, "p", null)
	counted(2, 2)
}

// P18.1: one table at two states answers each by its own objects.
func TestTableOfTwoStates(t *testing.T) {
	x := site.New([]int{2})
	one, two := state.New(0, 0, greatest, 20, x), state.New(0, 0, greatest, 20, x)
	for i, s := range []*state.State{one, two} {
		for n := range 3 {
			o, _ := s.Make()
			s.Set(0, 0, o, "p", integer(10*i+n))
		}
	}
	for i, s := range []*state.State{one, two} {
		for n := range 3 {
			if v, is := s.Get(0, 1, obj(n+1), "p"); !is || v != integer(10*i+n) {
				t.Errorf("object %d of state %d has %v", n+1, i, v)
			}
		}
	}
	if hits, _ := x.Counts(); hits == 0 {
		t.Error("nothing was hit")
	}
}

// P18.2: steps are taken, up to just as many as there are.
func TestTick(t *testing.T) {
	for _, x := range []struct {
		fuel  int
		ticks []int
		steps int
		over  bool
	}{
		{0, nil, 0, false}, {0, []int{0}, 0, false}, {0, []int{-1}, 0, false}, {0, []int{1}, 0, true},
		{5, []int{5}, 5, false}, {5, []int{6}, 5, true}, {5, []int{2, 3}, 5, false}, {5, []int{2, 4}, 5, true}, {5, []int{2, 3, 0, -7}, 5, false}, {5, []int{2, 3, 1}, 5, true},
		{5, []int{math.MaxInt}, 5, true}, {5, []int{math.MinInt, 4}, 4, false}, {5, []int{-3, 5}, 5, false}, {5, []int{-3, 6}, 5, true}, {5, []int{1, math.MaxInt}, 5, true}, {7, []int{1, 1, 1, 1, 1, 1, 1}, 7, false}, {7, []int{1 << 32}, 7, true},
		{-4, []int{0}, 0, false}, {-4, []int{1}, 0, true}, {1 << 30, []int{1 << 20}, 1 << 20, false}, {1 << 30, []int{1<<20 + 1}, 1 << 20, true},
	} {
		c := newCrowd(1, x.fuel, greatest)
		for i, n := range x.ticks {
			c.truth(t, !x.over || i < len(x.ticks)-1, func(m machine) bool { return m.Tick(n) })
		}
		if n := c.states[0].Steps(); n != x.steps {
			t.Errorf("%v: %d steps, not %d", x.ticks, n, x.steps)
		}
		if x.over {
			c.ends(t, api.FuelOut, api.FuelGone)
		} else if c.states[0].Over() {
			t.Errorf("%v: it is over", x.ticks)
		}
	}
}

// P18.2, Ways: steps can be read while another goroutine takes them.
func TestStepsWhileItRuns(t *testing.T) {
	s := state.New(0, 1<<20, greatest, 0, nil)
	seen := make(chan []int)
	go func() {
		var l []int
		for n := 0; n < 1<<16; n = s.Steps() {
			l = append(l, n)
		}
		seen <- l
	}()
	for range 1 << 16 {
		s.Tick(1)
	}
	if l := <-seen; !slices.IsSorted(l) {
		t.Error("the steps went back")
	}
	if s.Steps() != 1<<16 {
		t.Error(s.Steps())
	}
}

// P18.3: globals get values, each its own.
func TestGlobals(t *testing.T) {
	c := newCrowd(3, 5, greatest)
	c.objects(t, 1)
	for i, v := range []api.Value{obj(1), quoted("a\n"), fun(2)} {
		c.truth(t, true, func(m machine) bool { return m.SetGlobal(i, v) })
	}
	c.dump(t, "#1 #0\nG #1 \"a\\x0a\" &2\nS 0\n")
	c.truth(t, true, func(m machine) bool { return m.SetGlobal(1, truth(true)) })
	c.truth(t, true, func(m machine) bool { return m.SetGlobal(0, null) })
	c.dump(t, "#1 #0\nG null true &2\nS 0\n")
	for _, i := range []int{-1, 3, 4, 24, math.MaxInt, math.MinInt, 1 << 32} {
		c.truth(t, false, func(m machine) bool { return m.SetGlobal(i, integer(1)) })
		for _, s := range c.states {
			if v := s.Global(i); v != null {
				t.Error(i, v)
			}
		}
	}
	for _, s := range c.states {
		if s.Over() || s.Global(1) != truth(true) || s.Global(2) != fun(2) {
			t.Error("globals that there are not have done something")
		}
	}
	c.touched(t)
}

// P18.3: calls are entered and left; as many may be under way as the limit says.
func TestEnterAndLeave(t *testing.T) {
	enter := func(m machine) bool { return m.Enter(fun(1)) }
	c := newCrowd(0, 5, api.Limits{Depth: 2})
	for range 3 {
		c.truth(t, true, enter)
		c.truth(t, true, enter)
		c.quiet(t, machine.Leave)
		c.truth(t, true, enter)
		for range 5 {
			c.quiet(t, machine.Leave)
		}
	}
	c.truth(t, true, enter)
	c.truth(t, true, enter)
	c.truth(t, false, enter)
	c.ends(t, api.LimitHit, api.LimDepth)
}

// P18.3: what is no Fun can't be entered, whatever the number of calls.
func TestEnterOfNoFunction(t *testing.T) {
	for _, v := range noFunctions() {
		for depth := range 3 {
			c := newCrowd(0, 5, api.Limits{Depth: depth})
			for range depth {
				c.truth(t, true, func(m machine) bool { return m.Enter(fun(math.MaxInt)) })
			}
			c.truth(t, false, func(m machine) bool { return m.Enter(v) })
			c.ends(t, api.Failed, api.ErrType)
		}
	}
}

// P18.3, P18.4: Finish, with each kind of value; what was printed is told, and the value.
func TestFinish(t *testing.T) {
	for _, x := range []struct {
		v    api.Value
		want string
	}{{null, "null"}, {truth(true), "true"}, {integer(-7), "-7"}, {quoted("a\n"), "a\n"}, {quoted(""), ""}, {obj(9), "object"}, {fun(0), "function"}, {api.Value{Kind: 6}, ""}} {
		c := newCrowd(1, 5, greatest)
		c.truth(t, true, func(m machine) bool { return m.Print(integer(1)) })
		c.truth(t, true, func(m machine) bool { return m.Print(quoted("b")) })
		c.quiet(t, func(m machine) { m.Finish(x.v) })
		c.ends(t, api.Done, api.OK)
		for range 2 {
			for _, s := range c.states {
				if o := s.Outcome(); o.V != x.want || !slices.Equal(o.Out, []string{"1", "b"}) {
					t.Error(told(o))
				}
			}
			c.quiet(t, func(m machine) { m.Finish(quoted("other")) })
		}
	}
}

// P18.4: an outcome's list is nobody else's; without what was printed there is none.
func TestOutcomeIsItsOwn(t *testing.T) {
	s := state.New(0, 5, greatest, 5, nil)
	s.Print(integer(1))
	s.Print(integer(2))
	if o := s.Outcome(); o.Kind != 0 || len(o.Out) != 0 {
		t.Error("it goes on, and is told", told(o))
	}
	s.Finish(null)
	o := s.Outcome()
	o.Out[0] = "x"
	_ = append(o.Out[:1], "y")
	if o := s.Outcome(); told(o) != `2 0 0 "null" "1" "2"` {
		t.Error(told(o))
	}
	if d := s.Dump(); d != "G\nP \"1\"\nP \"2\"\nS 0\n" {
		t.Error(d)
	}
	quiet := state.New(0, 0, greatest, 5, nil)
	quiet.Tick(1)
	if o := quiet.Outcome(); len(o.Out) != 0 || o.Kind != api.FuelOut {
		t.Error(told(o))
	}
}

// P18.4: Dump behind each kind of deed, and behind the end.
func TestDump(t *testing.T) {
	c := newCrowd(2, 9, greatest)
	c.objects(t, 2)
	c.set(t, 1, "x", quoted("a b"))
	c.under(t, 2, 1)
	c.set(t, 2, "y", fun(3))
	c.set(t, 2, "if", obj(1))
	c.truth(t, true, func(m machine) bool { return m.SetGlobal(1, obj(2)) })
	for _, v := range []api.Value{quoted("a\x00\xff\n\"\\"), obj(1), fun(1), integer(-3), truth(false), null, quoted("")} {
		c.truth(t, true, func(m machine) bool { return m.Print(v) })
	}
	c.truth(t, true, func(m machine) bool { return m.Tick(7) })
	want := "#1 #0 x:\"a b\"\n#2 #1 y:&3 if:#1\nG null #2\nP \"a\\x00\\xff\\x0a\\\"\\\\\"\nP \"object\"\nP \"function\"\nP \"-3\"\nP \"false\"\nP \"null\"\nP \"\"\nS 7\n"
	c.dump(t, want)
	c.truth(t, true, func(m machine) bool { return m.Enter(fun(1)) })
	c.dump(t, want)
	c.quiet(t, func(m machine) { m.Finish(integer(4)) })
	c.dump(t, want)
}
