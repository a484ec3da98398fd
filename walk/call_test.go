package walk_test

import (
	"testing"

	"proteus/api"
)

// P13.1: a call's locals: fewer arguments than parameters, as many, and more.
func TestArguments(t *testing.T) {
	f := "let f = fn(a, b) { let c = 9; print a; print b; return c; }; return "
	hold(t, []row{
		{f + "f();", "done 9 [null,null] 13"},
		{f + "f(1);", "done 9 [1,null] 14"},
		{f + "f(1, 2);", "done 9 [1,2] 15"},
		{f + "f(1, 2, 3);", "done 9 [1,2] 16"},
		{f + "f(1, 2, 3, 4, 5, 6);", "done 9 [1,2] 19"},
		{"let f = fn() { print c; let c = 9; }; f(1, 2, 3);", "done null [null] 12"},
		{"let f = fn(a) { let b = 1; print c; let c = 2; print a; }; f(5, 6, 7);", "done null [null,5] 16"},
		{"let f = fn(a, b, c, d, e, g) { return a + b * c - d / e % g; }; return f(1, 2, 3, 80, 9, 5);", "done 4 [] 23"},
	})
}

// P13.1: the Kids of a call are walked from the left on, the callee first.
func TestCallsWalkFromTheLeft(t *testing.T) {
	s := "let s = fn(i, v) { print i; return v; }; let f = fn(a, b) { return a - b; }; "
	hold(t, []row{
		{s + "return s(1, f)(s(2, 7), s(3, 4));", "done 3 [1,2,3] 34"},
		{s + "return s(1, {m: f}).m(s(2, 7), s(3, 4));", "done 3 [1,2,3] 35"},
		{"let f = fn(x) { return 1; }; let g = fn() { f = null; return 2; }; print f(g()); return f;", "done null [1] 17"},
	})
}

// P13.1: each call has locals of its own.
func TestLocalsOfACall(t *testing.T) {
	hold(t, []row{
		{"let f = fn(n) { let m = n; if (n > 0) { f(n - 1); } print m; return m; }; return f(2);", "done 2 [0,1,2] 51"},
		{"let f = fn(n) { print m; let m = n; }; f(1); f(2);", "done null [null,null] 18"},
	})
}

// P13.1: functions that call themselves, and one another.
func TestRecursion(t *testing.T) {
	hold(t, []row{
		{"let f = fn(n) { if (n < 2) { return 1; } return n * f(n - 1); }; return f(5);", "done 120 [] 65"},
		{"let f = fn(n) { if (n < 2) { return n; } return f(n - 1) + f(n - 2); }; return f(7);", "done 13 [] 493"},
		{"let even = fn(n) { if (n == 0) { return true; } return odd(n - 1); }; let odd = fn(n) { if (n == 0) { return false; } return even(n - 1); }; print even(4); return even(5);", "done false [true] 125"},
		{"let o = {f: fn(n) { if (n == 0) { return 0; } return n + this.f(n - 1); }}; return o.f(3);", "done 6 [] 53"},
		{"let f = fn() { return f; }; return f()()()() == f;", "done true [] 18"},
	})
}

// P13.1: methods have their object as this, calls a Null; wherever the function was found.
func TestMethods(t *testing.T) {
	hold(t, []row{
		{"let o = {x: 7, f: fn() { return this.x; }}; return o.f();", "done 7 [] 10"},
		{"let o = {f: fn() { return this == o; }}; return o.f();", "done true [] 10"},
		{"let o = {f: fn() { return this; }}; return (o.f)();", "done null [] 9"},
		{`let o = {f: fn() { return this; }}; return o["f"]();`, "done null [] 10"},
		{"let p = {f: fn() { return this.x; }, x: 1}; let o = setproto({x: 2}, p); print o.f(); return p.f();", "done 1 [2] 21"},
		{"let o = {f: fn(a, b) { return this.g(b, a); }, g: fn(a, b) { return a - b; }}; return o.f(1, 5);", "done 4 [] 18"},
		{"let g = fn() { return this; }; let o = {f: fn() { print g(); return this == o; }}; return o.f();", "done true [null] 17"},
		{"let o = {f: fn() { this.x = 5; delete this.y; return this; }, y: 1}; o.f(); print o.x; return o.y;", "done null [5] 20"},
		{"let o = {f: fn() { return fn() { return this; }; }}; print o.f()(); return 1;", "done 1 [null] 13"},
		{"let o = {f: fn(a, b) { print a; return b; }}; return o.f(4);", "done null [4] 11"},
		{"let o = {f: fn(a) { return a; }}; return o.f(4, 5, 6);", "done 4 [] 11"},
	})
}

// P13.1: what is called is looked up ahead of the arguments; this is the object then.
func TestMethodIsLookedUpFirst(t *testing.T) {
	hold(t, []row{
		{"let o = {f: fn(a) { return a; }}; let g = fn() { o.f = null; return 1; }; print o.f(g()); return o.f;", "done null [1] 20"},
		{"let o = {f: fn(a) { return this.x; }, x: 1}; let p = o; let g = fn() { o = {x: 2}; return 1; }; return o.f(g());", "done 1 [] 21"},
		{"let o = {}; let g = fn() { o.f = fn(a) { return a; }; return 1; }; return o.f(g());", "failed 30 [] 14"},
	})
}

// P13.1: objects whose prototypes change between calls.
func TestPrototypesChange(t *testing.T) {
	hold(t, []row{
		{"let a = {f: fn() { return 1; }}; let b = {f: fn() { return 2; }}; let o = setproto({}, a); print o.f(); setproto(o, b); print o.f(); delete b.f; setproto(b, a); print o.f(); a.f = fn() { return 3; }; print o.f(); o.f = fn() { return 4; }; print o.f(); delete o.f; return o.f();", "done 3 [1,2,1,3,4] 58"},
		{"let o = {}; let i = 0; while (i < 3) { setproto(o, {n: i, f: fn() { return this.n * 10; }}); print o.f(); i = i + 1; } return proto(o).n;", "done 2 [0,10,20] 78"},
		{"let p = {f: fn() { setproto(this, q); return this.x; }, x: 1}; let q = {x: 2}; let o = setproto({}, p); print o.f(); return o.f;", "done null [2] 24"},
	})
}

// P13.1: calls of which none is within another one do not add up.
func TestCallsAreLeft(t *testing.T) {
	l := greatest
	l.Depth = 2
	for _, x := range []row{
		{"let f = fn() { return 1; }; let i = 0; while (i < 60) { i = i + f(); } return i;", "done 60 [] 670"},
		{"let g = fn() { while (true) { return 1; } }; let f = fn() { if (true) { return g(); } }; let i = 0; while (i < 60) { i = i + f(); } return i;", "done 60 [] 1212"},
		{"let f = fn(x) { return x; }; return f(f(f(f(f(f(7))))));", "done 7 [] 28"},
		{"let o = {f: fn() {}, g: fn() { this.f(); this.f(); this.f(); }}; o.g(); o.g(); return 5;", "done 5 [] 30"},
	} {
		holdWith(t, x, l)
	}
}

// P13.1: function 0 as a Fun: a call of it is a call, and answers what it returns.
func TestFunctionZeroIsCalled(t *testing.T) {
	i := global(0)
	u := program(1, body(
		show(i),
		node(api.SIf, signed(api.EBin, api.Eq, i, whole(2)), block(answer(quoted("in"))), block()),
		node(api.SIf, i, block(numbered(api.SGlobal, 0, sum(i, whole(1)))), block(numbered(api.SGlobal, 0, whole(1)))),
		show(node(api.ECall, fun(0), whole(9))),
		answer(quoted("out")),
	))
	if o, n := run(t, u, maxFuel, greatest); told(o, n) != "done out [null,1,2,in,out] 47" {
		t.Error(told(o, n))
	}
	l := greatest
	l.Depth = 1
	if o, n := run(t, u, maxFuel, l); told(o, n) != "limit 41 [null,1] 34" {
		t.Error(told(o, n))
	}
}

// P13.1: methods by hand, this in function 0, and the greatest number of arguments.
func TestMethodsByHand(t *testing.T) {
	six := body(whole(1), whole(2), whole(3), whole(4), whole(5), whole(6))
	obj := api.Node{Kind: api.EObj, Names: []string{"m"}, Kids: body(fun(1))}
	f := api.Fn{Params: 6, Locals: 6, Body: body(show(node(api.EThis)), answer(local(5)))}
	for _, x := range []struct {
		n    api.Node
		want string
	}{
		{named(api.EMeth, "m", append(body(obj), six...)...), "done 6 [object] 14"},
		{node(api.ECall, append(body(fun(1)), six...)...), "done 6 [null] 13"},
		{named(api.EMeth, "m", obj), "done null [object] 8"},
		{node(api.ECall, fun(1)), "done null [null] 7"},
	} {
		u := program(0, body(answer(x.n)), f)
		o, n := run(t, u, maxFuel, greatest)
		if got := told(o, n); got != x.want {
			t.Errorf("kind %d comes to %s, not to %s", x.n.Kind, got, x.want)
		}
		holdFuel(t, u, greatest, o, n)
	}
}
