package state_test

import (
	"testing"

	"proteus/api"
)

// dice are numbers that look mixed, the same ones each time.
type dice uint64

func (d *dice) below(n int) int {
	*d = *d*6364136223846793005 + 1442695040888963407
	return int(uint64(*d) >> 33 % uint64(n))
}

func (d *dice) name() string { return []string{"a", "b", "c", "d", "if", ""}[d.below(6)] }

// object is one that there is, most often.
func (d *dice) object(c *crowd) api.Value {
	n := len(c.m.things)
	if d.below(700) == 0 {
		return obj(n + 1 - d.below(3)*(n+1))
	}
	return obj(1 + d.below(max(n, 1)))
}

// value is one of any kind.
func (d *dice) value(c *crowd) api.Value {
	switch d.below(6) {
	case 0:
		return null
	case 1:
		return truth(d.below(2) == 0)
	case 2:
		return quoted(d.name())
	case 3:
		return d.object(c)
	case 4:
		return fun(d.below(3))
	}
	return integer(d.below(9) - 4)
}

// seldom is another value than the one that is right, now and then.
func (d *dice) seldom(c *crowd, v api.Value) api.Value {
	if d.below(900) == 0 {
		return d.value(c)
	}
	return v
}

// built is a call with arguments that most often are right.
func (d *dice) built(c *crowd) (int, []api.Value) {
	op := 1 + d.below(7)
	args := []api.Value{d.seldom(c, d.object(c))}
	switch op {
	case api.BKey:
		args = append(args, d.seldom(c, integer(d.below(6)-1)))
	case api.BHas:
		args = append(args, d.seldom(c, quoted(d.name())))
	case api.BSetProto:
		p := d.below(len(c.m.things) + 1)
		if p >= args[0].N {
			p = 0
		}
		if d.below(25) == 0 {
			p = d.below(len(c.m.things) + 1)
		}
		v := obj(p)
		if p == 0 {
			v = null
		}
		args = append(args, d.seldom(c, v))
	case api.BLen:
		args[0] = d.seldom(c, quoted(d.name()))
	case api.BStr:
		args[0] = d.value(c)
	}
	if d.below(400) == 0 {
		return d.below(9), args[:d.below(len(args)+1)]
	}
	return op, args
}

// deed is a call of a mixed row.
func (d *dice) deed(c *crowd) func(m machine) any {
	f, s, o, name, v := d.below(5), d.below(4), d.seldom(c, d.object(c)), d.name(), d.value(c)
	if d.below(4) > 0 {
		f, s = 3, siteOf(name)
	}
	k := d.seldom(c, quoted(name))
	switch d.below(22) {
	case 0:
		n := d.below(4) - 1
		return func(m machine) any { return m.Tick(n) }
	case 1, 2:
		if d.below(3) > 0 && len(c.m.things) > 5 {
			break
		}
		return func(m machine) any { return with(m.Make()) }
	case 3, 4, 5:
		return func(m machine) any { return with(m.Get(f, s, o, name)) }
	case 6, 7, 8:
		return func(m machine) any { return m.Set(f, s, o, name, v) }
	case 9:
		return func(m machine) any { return with(m.GetIx(o, k)) }
	case 10:
		return func(m machine) any { return m.SetIx(o, k, v) }
	case 11:
		return func(m machine) any { return m.Del(o, name) }
	case 12:
		return func(m machine) any { return m.DelIx(o, k) }
	case 13, 14, 15:
		op, args := d.built(c)
		return func(m machine) any { return with(m.Built(op, args)) }
	case 16:
		op, n := 1+d.below(11), d.seldom(c, integer(1+d.below(5)))
		return func(m machine) any { return with(m.Bin(op, integer(7), n)) }
	case 17:
		op := 1 + d.below(2)
		n := d.seldom(c, integer(d.below(5)))
		return func(m machine) any { return with(m.Un(op, n)) }
	case 18:
		i := d.below(5) - 1
		return func(m machine) any { return m.SetGlobal(i, v) }
	}
	return d.plain(c, v)
}

// plain is one of those that leave the objects alone.
func (d *dice) plain(c *crowd, v api.Value) func(m machine) any {
	switch d.below(60) {
	case 0:
		if d.below(8) > 0 {
			break
		}
		return func(m machine) any { m.Finish(v); return nil }
	case 1, 2, 3, 4, 5, 6, 7, 8, 9:
		callee := d.seldom(c, fun(1))
		return func(m machine) any { return m.Enter(callee) }
	case 10, 11, 12, 13, 14, 15, 16, 17, 18, 19, 20:
		return func(m machine) any { m.Leave(); return nil }
	case 21, 22, 23, 24, 25, 26, 27, 28, 29, 30:
		return func(m machine) any { return list(m.Touched()) }
	}
	return func(m machine) any { return m.Print(v) }
}

// siteOf is the site that most uses of a name are at.
func siteOf(name string) int {
	if name == "" {
		return 0
	}
	return int(name[0] % 5)
}

// P18.5: mixed rows over states of all kinds of shapes and sites: all is answered alike, and as the model says.
func TestMixed(t *testing.T) {
	ends := map[api.Errno]int{}
	long := 0
	for seed := range 500 {
		d := dice(seed)
		l := []api.Limits{greatest, {Objects: 6, Depth: 3, Props: 3, Str: 5}, {Objects: 30, Depth: 2, Props: 6, Str: 9}}[seed%3]
		c := newCrowd(seed%5, []int{1 << 20, 4, 12}[seed/3%3], l)
		c.objects(t, 3)
		for i := 0; i < 400 && !c.m.over; i++ {
			c.do(t, d.deed(c))
			if i%8 == 0 {
				c.hold(t)
			}
			long++
		}
		c.hold(t)
		ends[c.m.err]++
		if c.m.over {
			c.dead(t)
		}
		c.do(t, func(m machine) any { return list(m.Touched()) })
	}
	for _, e := range []api.Errno{api.OK, api.ErrArg, api.ErrNone, api.ErrType, api.ErrCycle, api.LimObjects, api.LimDepth, api.LimProps, api.LimStr, api.FuelGone} {
		if ends[e] == 0 {
			t.Error("none ends with", int(e), ends)
		}
	}
	if long < 30000 {
		t.Error("the test's rows are short:", long)
	}
}

// P18.5: all rows of four deeds out of ten.
func TestAllShortRows(t *testing.T) {
	args := []api.Value{obj(1), obj(2)}
	deeds := []func(m machine) any{
		func(m machine) any { return m.Set(0, 0, obj(1), "a", integer(1)) },
		func(m machine) any { return m.Set(0, 0, obj(2), "a", integer(2)) },
		func(m machine) any { return with(m.Get(3, 1, obj(1), "a")) },
		func(m machine) any { return m.SetIx(obj(2), quoted("b"), integer(3)) },
		func(m machine) any { return m.DelIx(obj(2), quoted("a")) },
		func(m machine) any { return with(m.Built(api.BSetProto, args)) },
		func(m machine) any { return with(m.Make()) },
		func(m machine) any { return m.Enter(fun(1)) },
		func(m machine) any { return m.Tick(2) },
		func(m machine) any { return list(m.Touched()) },
	}
	const length = 4
	rows := 1
	for range length {
		rows *= len(deeds)
	}
	for row := range rows {
		c := newCrowd(1, 3, api.Limits{Objects: 3, Depth: 1, Props: 1, Str: 3})
		for range 2 {
			c.do(t, func(m machine) any { return with(m.Make()) })
		}
		for i, r := 0, row; i < length; i, r = i+1, r/len(deeds) {
			c.do(t, deeds[r%len(deeds)])
		}
		c.do(t, func(m machine) any { return told(m.Outcome()) + m.Dump() + list(m.Touched()) })
	}
}
