package state_test

import (
	"math"
	"slices"
	"testing"

	"proteus/api"
)

// P18.2: signs of one value and of two, and their errors.
func TestSigns(t *testing.T) {
	a, b := quoted("a"), quoted("b")
	for _, x := range []struct {
		deed func(m machine) (api.Value, bool)
		want api.Value
		e    api.Errno
	}{
		{func(m machine) (api.Value, bool) { return m.Un(api.Neg, integer(5)) }, integer(-5), 0},
		{func(m machine) (api.Value, bool) { return m.Un(api.Not, null) }, truth(true), 0},
		{func(m machine) (api.Value, bool) { return m.Un(api.Not, integer(0)) }, truth(false), 0},
		{func(m machine) (api.Value, bool) { return m.Un(api.Neg, a) }, null, api.ErrType},
		{func(m machine) (api.Value, bool) { return m.Un(0, integer(1)) }, null, api.ErrArg},
		{func(m machine) (api.Value, bool) { return m.Un(3, integer(1)) }, null, api.ErrArg},
		{func(m machine) (api.Value, bool) { return m.Un(math.MinInt, integer(1)) }, null, api.ErrArg},
		{func(m machine) (api.Value, bool) { return m.Bin(api.Add, integer(2), integer(3)) }, integer(5), 0},
		{func(m machine) (api.Value, bool) { return m.Bin(api.Add, a, b) }, quoted("ab"), 0},
		{func(m machine) (api.Value, bool) { return m.Bin(api.Sub, integer(2), integer(3)) }, integer(-1), 0},
		{func(m machine) (api.Value, bool) { return m.Bin(api.Mul, integer(2), integer(3)) }, integer(6), 0},
		{func(m machine) (api.Value, bool) { return m.Bin(api.Div, integer(7), integer(-2)) }, integer(-3), 0},
		{func(m machine) (api.Value, bool) { return m.Bin(api.Mod, integer(7), integer(4)) }, integer(3), 0},
		{func(m machine) (api.Value, bool) { return m.Bin(api.Lt, a, b) }, truth(true), 0},
		{func(m machine) (api.Value, bool) { return m.Bin(api.Ge, integer(2), integer(3)) }, truth(false), 0},
		{func(m machine) (api.Value, bool) { return m.Bin(api.Eq, obj(1), obj(1)) }, truth(true), 0},
		{func(m machine) (api.Value, bool) { return m.Bin(api.Ne, obj(1), fun(1)) }, truth(true), 0},
		{func(m machine) (api.Value, bool) { return m.Bin(api.Add, a, integer(1)) }, null, api.ErrType},
		{func(m machine) (api.Value, bool) { return m.Bin(api.Lt, null, null) }, null, api.ErrType},
		{func(m machine) (api.Value, bool) { return m.Bin(api.Div, integer(1), integer(0)) }, null, api.ErrZero},
		{func(m machine) (api.Value, bool) { return m.Bin(api.Mod, integer(1), integer(0)) }, null, api.ErrZero},
		{func(m machine) (api.Value, bool) { return m.Bin(0, a, b) }, null, api.ErrArg},
		{func(m machine) (api.Value, bool) { return m.Bin(12, a, b) }, null, api.ErrArg},
		{func(m machine) (api.Value, bool) { return m.Bin(api.Add, quoted("abc"), b) }, quoted("abcb"), 0},
		{func(m machine) (api.Value, bool) { return m.Bin(api.Add, quoted("abcd"), b) }, null, api.LimStr},
	} {
		c := newCrowd(0, 5, api.Limits{Str: 4})
		c.value(t, x.want, x.e == 0, x.deed)
		c.came(t, x.e)
	}
}

// came says that it goes on, or how it is over.
func (c *crowd) came(t *testing.T, e api.Errno) {
	t.Helper()
	switch {
	case e == 0:
		c.truth(t, false, machine.Over)
	case e >= api.LimObjects:
		c.ends(t, api.LimitHit, e)
	default:
		c.ends(t, api.Failed, e)
	}
}

// family are three objects: 1 has a and b, 2 has c and is below 1, 3 has nothing and is below 2.
func family(t *testing.T, l api.Limits) *crowd {
	t.Helper()
	c := newCrowd(1, 9, l)
	c.objects(t, 3)
	c.set(t, 1, "a", integer(1))
	c.set(t, 1, "b", null)
	c.set(t, 2, "c", integer(3))
	c.under(t, 2, 1)
	c.under(t, 3, 2)
	c.touched(t, 1, 1, 2, 2, 3)
	return c
}

// call is a built-in call, and what comes of it.
type call struct {
	op   int
	args []api.Value
	want api.Value
	e    api.Errno
}

func holdCalls(t *testing.T, l []call) {
	t.Helper()
	for _, x := range l {
		c := family(t, api.Limits{Objects: 9, Depth: 9, Props: 9, Str: 6})
		kept := slices.Clone(x.args)
		c.value(t, x.want, x.e == 0, func(m machine) (api.Value, bool) { return m.Built(x.op, x.args) })
		c.came(t, x.e)
		if !slices.Equal(kept, x.args) {
			t.Error("the list of arguments is", x.args)
		}
		if x.op != api.BSetProto || x.e != 0 {
			c.touched(t)
		} else {
			c.touched(t, x.args[0].N)
		}
	}
}

// P18.2: each built-in call.
func TestBuilt(t *testing.T) {
	args := func(l ...api.Value) []api.Value { return l }
	holdCalls(t, []call{
		{api.BCount, args(obj(1)), integer(2), 0},
		{api.BCount, args(obj(3)), integer(0), 0},
		{api.BCount, args(obj(99)), integer(0), 0},
		{api.BKey, args(obj(1), integer(0)), quoted("a"), 0},
		{api.BKey, args(obj(1), integer(1)), quoted("b"), 0},
		{api.BKey, args(obj(1), integer(2)), null, 0},
		{api.BKey, args(obj(1), integer(-1)), null, 0},
		{api.BKey, args(obj(2), integer(1)), null, 0},
		{api.BKey, args(obj(99), integer(0)), null, 0},
		{api.BKey, args(obj(1), integer(math.MaxInt)), null, 0},
		{api.BHas, args(obj(1), quoted("b")), truth(true), 0},
		{api.BHas, args(obj(2), quoted("a")), truth(false), 0},
		{api.BHas, args(obj(1), quoted("")), truth(false), 0},
		{api.BHas, args(obj(99), quoted("a")), truth(false), 0},
		{api.BProto, args(obj(1)), null, 0},
		{api.BProto, args(obj(2)), obj(1), 0},
		{api.BProto, args(obj(3)), obj(2), 0},
		{api.BProto, args(obj(99)), null, 0},
		{api.BSetProto, args(obj(3), obj(1)), obj(3), 0},
		{api.BSetProto, args(obj(3), null), obj(3), 0},
		{api.BSetProto, args(obj(1), null), obj(1), 0},
		{api.BSetProto, args(obj(3), obj(2)), obj(3), 0},
		{api.BSetProto, args(obj(3), api.Value{N: 9}), obj(3), 0},
		{api.BSetProto, args(obj(1), api.Value{N: 1}), obj(1), 0},
		{api.BSetProto, args(obj(1), obj(1)), null, api.ErrCycle},
		{api.BSetProto, args(obj(1), obj(2)), null, api.ErrCycle},
		{api.BSetProto, args(obj(1), obj(3)), null, api.ErrCycle},
		{api.BSetProto, args(obj(1), obj(4)), null, api.ErrNone},
		{api.BSetProto, args(obj(4), obj(1)), null, api.ErrNone},
		{api.BSetProto, args(obj(4), null), null, api.ErrNone},
		{api.BSetProto, args(obj(0), obj(-5)), null, api.ErrNone},
		{api.BLen, args(quoted("")), integer(0), 0},
		{api.BLen, args(quoted("abcdefgh")), integer(8), 0},
		{api.BLen, args(obj(1)), null, api.ErrType},
		{api.BStr, args(integer(-12)), quoted("-12"), 0},
		{api.BStr, args(obj(1)), quoted("object"), 0},
		{api.BStr, args(quoted("abcdef")), quoted("abcdef"), 0},
		{api.BStr, args(quoted("abcdefg")), null, api.LimStr},
		{api.BStr, args(fun(1)), null, api.LimStr},
		{api.BStr, args(null), quoted("null"), 0},
	})
}

// P18.2: values of other kinds, each in each place.
func TestBuiltOfOtherKinds(t *testing.T) {
	var l []call
	for _, v := range noObjects() {
		for op, more := range [][]api.Value{nil, {integer(0)}, {quoted("a")}, nil, {null}} {
			l = append(l, call{op + 1, append([]api.Value{v}, more...), null, api.ErrType})
		}
	}
	for kind := -1; kind <= 7; kind++ {
		v := api.Value{Kind: kind, N: 1, S: "a"}
		for op, right := range map[int][]int{api.BKey: {api.Int}, api.BHas: {api.Str}, api.BSetProto: {api.Null, api.Obj}} {
			if !slices.Contains(right, kind) {
				l = append(l, call{op, []api.Value{obj(3), v}, null, api.ErrType})
				l = append(l, call{op, []api.Value{obj(99), v}, null, api.ErrType})
			}
			l = append(l, call{op, []api.Value{null, v}, null, api.ErrType})
		}
	}
	for _, v := range noStrings() {
		l = append(l, call{api.BLen, []api.Value{v}, null, api.ErrType})
	}
	holdCalls(t, l)
}

// P18.2: built-in calls that there are not, and such with too few and too many arguments; ErrArg comes ahead of ErrType.
func TestBuiltOfWrongForm(t *testing.T) {
	var l []call
	many := []api.Value{obj(1), null, integer(1), obj(2)}
	for _, op := range []int{0, -1, 8, 9, math.MaxInt, math.MinInt, 1 << 32, 1<<32 + 1} {
		for n := range 4 {
			l = append(l, call{op, many[:n], null, api.ErrArg})
		}
	}
	for op := api.BCount; op <= api.BStr; op++ {
		for n := range 5 {
			if n != []int{1, 2, 2, 1, 2, 1, 1}[op-1] {
				l = append(l, call{op, many[:n], null, api.ErrArg})
				l = append(l, call{op, make([]api.Value, n), null, api.ErrArg})
			}
		}
	}
	holdCalls(t, l)
}

// P18.2: what is printed, in its order; nothing else is done.
func TestPrint(t *testing.T) {
	c := family(t, greatest)
	for _, v := range []api.Value{integer(3), quoted("x y"), obj(1), null, truth(true), fun(7), quoted(""), {Kind: 77, N: 5, S: "z"}} {
		c.truth(t, true, func(m machine) bool { return m.Print(v) })
	}
	c.touched(t)
	c.quiet(t, func(m machine) { m.Finish(null) })
	for _, s := range c.states {
		if o := told(s.Outcome()); o != `2 0 0 "null" "3" "x y" "object" "null" "true" "function" "" ""` {
			t.Error(o)
		}
	}
}

// P18.4: with an error, too, what was printed is told, and no value.
func TestOutcomeOfFailures(t *testing.T) {
	for _, x := range []struct {
		deed func(m machine)
		want string
	}{
		{func(m machine) { m.Tick(9); m.Tick(1) }, `4 44 0 "" "1" "a"`},
		{func(m machine) { m.Del(integer(1), "a") }, `3 30 0 "" "1" "a"`},
		{func(m machine) { m.Bin(api.Div, integer(1), integer(0)) }, `3 31 0 "" "1" "a"`},
		{func(m machine) { m.Enter(fun(0)); m.Enter(fun(0)) }, `5 41 0 "" "1" "a"`},
		{func(m machine) { m.Built(api.BLen, nil); m.Finish(integer(9)) }, `3 2 0 "" "1" "a"`},
		{func(m machine) { m.Finish(integer(9)); m.Built(api.BLen, nil) }, `2 0 0 "9" "1" "a"`},
		{func(m machine) { m.Make(); m.Make(); m.Print(null) }, `5 40 0 "" "1" "a"`},
	} {
		c := newCrowd(0, 9, api.Limits{Objects: 1, Depth: 1})
		c.truth(t, true, func(m machine) bool { return m.Print(integer(1)) })
		c.truth(t, true, func(m machine) bool { return m.Print(quoted("a")) })
		c.quiet(t, x.deed)
		for _, s := range c.states {
			if got := told(s.Outcome()); got != x.want {
				t.Errorf("%s, not %s", got, x.want)
			}
		}
		c.dead(t)
	}
}
