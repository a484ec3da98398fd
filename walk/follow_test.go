package walk_test

import (
	"testing"

	"proteus/api"
	"proteus/walk"
)

// follows asks what P13.2 says of a run, and of one with more: that the run is the same, unless it had not enough; then that it prints what was printed, first.
func follows(t *testing.T, less, more api.Outcome, steps, further int, enough bool) {
	t.Helper()
	if enough && (!same(less, more) || steps != further) {
		t.Fatalf("%s, and with more %s", told(less, steps), told(more, further))
	}
	if !isPrefix(less.Out, more.Out) || steps > further {
		t.Fatalf("%s goes on as %s", told(less, steps), told(more, further))
	}
}

// withinFuel asks what P13.2 says of the steps of a run.
func withinFuel(t *testing.T, o api.Outcome, steps, fuel int) {
	t.Helper()
	if steps > fuel || steps < 0 || o.Kind == api.FuelOut && steps != fuel {
		t.Fatalf("fuel %d comes to %s", fuel, told(o, steps))
	}
}

// followed are programs of which some end, fail, hit limits, or have no end.
func followed() []string {
	return []string{
		"",
		"print 1 + 2;",
		"let f = fn(n) { print n; if (n < 2) { return 1; } return n * f(n - 1); }; return f(9);",
		"let i = 0; while (i < 20) { print {a: i}.a; i = i + 1; } return i;",
		"let i = 0; while (true) { print i; i = i + 1; }",
		"let f = fn(n) { print n; f(n + 1); }; f(0);",
		"let o = {}; let i = 0; while (true) { o[\"p\" + str(i)] = i; print count(o); i = i + 1; }",
		"let s = \"\"; while (true) { s = s + \"ab\"; print len(s); }",
		"let s = \"abc\"; while (true) { print str(s); s = s + s; }",
		"let a = {}; while (true) { print a; a = setproto({x: a}, a); }",
		"let p = {m: fn(x) { print x; return this.n + x; }, n: 1}; let o = setproto({}, p); print o.m(1); o.n = 5; print o.m(2); delete p.m; print o.m(3);",
		"print 1; print 2; print 3 / (1 - 1); print 4;",
		"let a = {b: {c: {d: {}}}}; print a.b.c.d; setproto(a, a.b); print proto(a); setproto(a.b.c, a); print 1; setproto(a.b, a.b.c); print 2;",
		"let f = fn(n) { if (n > 0) { print n; f(n - 1); f(n - 1); } }; f(5); return 7;",
		"let f = fn(o, n) { if (n == 0) { return o; } return f({up: o, n: n}, n - 1); }; let o = f(null, 30); while (o) { print o.n; o = o.up; }",
		"print \"long enough\" + \" to be cut\"; print str(123456); print {a: 1, b: 2, c: 3, d: 4}; print null && 1 || 2;",
	}
}

// P13.2: each fuel from 0 on, against the next one, and against the whole.
func TestMoreFuel(t *testing.T) {
	for _, src := range followed() {
		u := load(t, src)
		for _, l := range []api.Limits{greatest, {Objects: 3, Depth: 3, Props: 3, Str: 9}, {Objects: 12, Depth: 12, Props: 2, Str: 30}} {
			const enough = 1500
			all, top := run(t, u, enough, l)
			withinFuel(t, all, top, enough)
			last, steps := run(t, u, 0, l)
			withinFuel(t, last, steps, 0)
			for fuel := 1; fuel <= min(top+3, enough); fuel++ {
				o, n := walk.Run(u, fuel, l)
				withinFuel(t, o, n, fuel)
				follows(t, last, o, steps, n, last.Kind != api.FuelOut)
				follows(t, o, all, n, top, o.Kind != api.FuelOut)
				if fuel < top && o.Kind != api.FuelOut || fuel >= top && all.Kind != api.FuelOut && !same(o, all) {
					t.Fatalf("%s: fuel %d of %d comes to %s", src, fuel, top, told(o, n))
				}
				last, steps = o, n
			}
		}
	}
}

// wider are limits of which one is greater, one by one.
func wider(l api.Limits) []api.Limits {
	a, b, c, d := l, l, l, l
	a.Objects++
	b.Depth++
	c.Props++
	d.Str++
	return []api.Limits{a, b, c, d, {Objects: l.Objects + 1, Depth: l.Depth + 1, Props: l.Props + 1, Str: l.Str + 1}, greatest}
}

// P13.2: greater limits, each on its own, and all at once; with much fuel, and with little.
func TestGreaterLimits(t *testing.T) {
	for _, src := range followed() {
		u := load(t, src)
		for _, fuel := range []int{1500, 60, 17} {
			for n := -1; n <= 60; n++ {
				for _, l := range []api.Limits{{Objects: n, Depth: n, Props: n, Str: n}, {Objects: n, Depth: 50, Props: 32, Str: 256}, {Objects: 200, Depth: n, Props: 32, Str: 256}, {Objects: 200, Depth: 50, Props: n, Str: 256}, {Objects: 200, Depth: 50, Props: 32, Str: n}} {
					o, steps := walk.Run(u, fuel, l)
					withinFuel(t, o, steps, fuel)
					for _, w := range wider(l) {
						p, further := walk.Run(u, fuel, w)
						follows(t, o, p, steps, further, o.Kind != api.LimitHit)
					}
				}
			}
		}
	}
}

// P13.2, of the programs above: that they come to each kind of end, so that something is asked.
func TestFollowedEndInAllWays(t *testing.T) {
	seen := map[api.Errno]int{}
	for _, src := range followed() {
		o, _ := walk.Run(load(t, src), 1500, greatest)
		seen[o.Err]++
		o, _ = walk.Run(load(t, src), 1500, api.Limits{Objects: 3, Depth: 3, Props: 3, Str: 9})
		seen[o.Err]++
	}
	for _, e := range []api.Errno{api.OK, api.ErrType, api.ErrZero, api.ErrCycle, api.LimObjects, api.LimDepth, api.LimProps, api.LimStr, api.FuelGone} {
		if seen[e] == 0 {
			t.Error("none ends with", int(e))
		}
	}
}
