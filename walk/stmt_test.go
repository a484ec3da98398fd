package walk_test

import (
	"testing"

	"proteus/api"
)

// P13.1: locals and globals get values; those of one name are two.
func TestLocalsAndGlobals(t *testing.T) {
	hold(t, []row{
		{"let a = 1; a = a + 1; return a;", "done 2 [] 8"},
		{"let a = 1; let f = fn() { a = 5; }; f(); return a;", "done 5 [] 11"},
		{"let a = 1; let f = fn() { let a = 5; return a; }; print f(); return a;", "done 1 [5] 13"},
		{"let f = fn(a) { a = a + 1; return a; }; let a = 7; print f(1); return a;", "done 7 [2] 16"},
		{"let f = fn() { print a; let a = 5; return a; }; print f(); return f();", "done 5 [null,5,null] 20"},
	})
}

// P13.1: SSet, SSetIx: the property of the object itself; in the order in which they came.
func TestSet(t *testing.T) {
	hold(t, []row{
		{"let o = {}; o.a = 1; o.b = 2; o.a = 3; print key(o, 0); print key(o, 1); print count(o); return o.a;", "done 3 [a,b,2] 25"},
		{`let o = {}; o["a"] = 1; o["b"] = 2; o["a"] = 3; print key(o, 0); print key(o, 1); print count(o); return o.a;`, "done 3 [a,b,2] 28"},
		{`let o = {}; o["a b"] = 1; print has(o, "a b"); return key(o, 0);`, "done a b [true] 14"},
		{"let p = {x: 1}; let o = setproto({}, p); o.x = 2; print p.x; return o.x;", "done 2 [1] 16"},
		{"let o = {}; o.o = o; return o.o.o == o;", "done true [] 11"},
		{"let o = {a: 1}; o.a = null; print count(o); return has(o, \"a\");", "done true [1] 13"},
		{`let s = fn(x) { print x; return x; }; s({}).a = s(1); s({})[s("k")] = s(2); return 0;`, "done 0 [object,1,object,k,2] 41"},
	})
}

// P13.1: SDel, SDelIx: what is there goes; what is not there does not matter; the chain stays.
func TestDelete(t *testing.T) {
	hold(t, []row{
		{"let o = {a: 1, b: 2}; delete o.a; o.a = 3; print key(o, 0); return key(o, 1);", "done a [b] 17"},
		{`let o = {a: 1, b: 2}; delete o["a"]; o.a = 3; print key(o, 0); return key(o, 1);`, "done a [b] 18"},
		{"let o = {a: 1}; delete o.b; delete o.a; delete o.a; return count(o);", "done 0 [] 12"},
		{`let o = {a: 1}; delete o["b"]; delete o["a"]; delete o["a"]; return count(o);`, "done 0 [] 15"},
		{"let o = setproto({x: 1}, {x: 2}); delete o.x; delete o.x; return o.x;", "done 2 [] 13"},
		{"let s = fn(x) { print x; return x; }; delete s({}).a; delete s({})[s(\"k\")]; return 0;", "done 0 [object,object,k] 27"},
	})
}

// P13.1: what is printed, in order.
func TestPrint(t *testing.T) {
	hold(t, []row{
		{"print 1 + 2;", "done null [3] 4"},
		{`print null; print true; print -1; print ""; print "a,b"; print {}; print fn() {};`, "done null [null,true,-1,,a,b,object,function] 15"},
		{"let f = fn() { print 1; return 2; }; print f();", "done null [1,2] 9"},
	})
}

// P13.1: SExpr does nothing more.
func TestSExpr(t *testing.T) {
	hold(t, []row{
		{"1; null; \"a\"; {}; fn() {};", "done null [] 10"},
		{"let f = fn() { print 5; return 7; }; f(); f();", "done null [5,5] 16"},
	})
}

// P13.1: SIf walks one of two blocks, which take a step themselves.
func TestIf(t *testing.T) {
	hold(t, []row{
		{"if (true) { print 1; } else { print 2; }", "done null [1] 5"},
		{"if (false) { print 1; } else { print 2; }", "done null [2] 5"},
		{"if (null) { print 1; }", "done null [] 3"},
		{"if (0) { print 1; }", "done null [1] 5"},
		{`if ("") {}`, "done null [] 3"},
		{"if (1 < 2) { print 1; print 2; } print 3;", "done null [1,2,3] 11"},
		{"if ({}) { if (null) { print 1; } else { if (true) { print 2; } } }", "done null [2] 11"},
		{"let s = fn(x) { print x; return x; }; if (s(null)) { print 1; } else { print 2; }", "done null [null,2] 13"},
	})
}

// P13.1: loops that run not at all, once, and often.
func TestWhile(t *testing.T) {
	hold(t, []row{
		{"while (false) { print 1; }", "done null [] 2"},
		{"while (null) {}", "done null [] 2"},
		{"let i = true; while (i) { print i; i = false; }", "done null [true] 10"},
		{"let i = 0; while (i < 3) { i = i + 1; } return i;", "done 3 [] 32"},
		{"let i = 0; while (i < 100) { i = i + 1; } return i;", "done 100 [] 808"},
		{"let i = 0; while (i < 2) { let j = 0; while (j < 2) { print i * 2 + j; j = j + 1; } i = i + 1; }", "done null [0,1,2,3] 90"},
		{"let o = {a: 1, b: 2, c: 3}; let n = 0; while (count(o) > 0) { n = n + o[key(o, 0)]; delete o[key(o, 0)]; } return n;", "done 6 [] 68"},
		{"let i = 3; while (i) { print i; if (i == 1) { i = null; } else { i = i - 1; } }", "done null [3,2,1] 41"},
		{"while (true) {}", "fuel 44 [] 1048576"},
	})
}

// P13.1: a return ends the function wherever it stands, and in function 0 the run.
func TestReturn(t *testing.T) {
	hold(t, []row{
		{"return 1; print 2;", "done 1 [] 2"},
		{"print 1; if (true) { return 2; } print 3;", "done 2 [1] 7"},
		{"if (false) {} else { return 2; } print 3;", "done 2 [] 5"},
		{"while (true) { return 3; }", "done 3 [] 5"},
		{"while (true) { while (true) { if (true) { print 1; return 4; } } }", "done 4 [1] 13"},
		{"let f = fn() { return 1; print 2; }; print f(); print 3;", "done null [1,3] 9"},
		{"let f = fn() { if (true) { return 1; } print 2; }; print f(); print 3;", "done null [1,3] 12"},
		{"let f = fn() { while (true) { return 1; } print 2; }; print f(); print 3;", "done null [1,3] 12"},
		{"let f = fn() { while (true) { while (true) { if (null) {} else { return 1; } } } }; print f(); return 3;", "done 3 [1] 18"},
		{"let i = 0; let f = fn() { while (true) { i = i + 1; if (i == 3) { return i; } } }; return f();", "done 3 [] 43"},
		{"let f = fn() { return null; print 2; }; return f();", "done null [] 7"},
		{"let f = fn() { print 1; }; return f();", "done null [1] 7"},
		{"let f = fn() {}; return f();", "done null [] 5"},
		{"let f = fn() { return fn() { return 5; }; }; return f()();", "done 5 [] 10"},
	})
}

// P13.1: a unit without statements takes no step.
func TestNothing(t *testing.T) {
	for _, fuel := range fuels() {
		for _, u := range []api.Unit{program(0, nil), program(24, nil), program(0, body()), program(3, nil, api.Fn{Params: 1, Locals: 2, Body: body(show(local(1)))})} {
			if o, n := run(t, u, fuel, api.Limits{}); told(o, n) != "done null [] 0" {
				t.Errorf("fuel %d comes to %s", fuel, told(o, n))
			}
		}
	}
}

// P13.1: each statement of a unit that was built by hand.
func TestStatementsByHand(t *testing.T) {
	obj := api.Node{Kind: api.EObj, Names: []string{"x", "y"}, Kids: body(whole(7), whole(8))}
	yes, no, o := numbered(api.EBool, 1), numbered(api.EBool, 0), global(0)
	for _, x := range []struct {
		n    api.Node
		want string
	}{
		{numbered(api.SGlobal, 1, whole(5)), "done 5 [2,x] 15"},
		{named(api.SSet, "x", o, whole(1)), "done null [2,x] 16"},
		{named(api.SSet, "z", o, whole(1)), "done null [3,x] 16"},
		{node(api.SSetIx, o, quoted("x"), whole(1)), "done null [2,x] 17"},
		{node(api.SSetIx, o, quoted("z"), whole(1)), "done null [3,x] 17"},
		{named(api.SDel, "x", o), "done null [1,y] 15"},
		{named(api.SDel, "y", o), "done null [1,x] 15"},
		{named(api.SDel, "z", o), "done null [2,x] 15"},
		{node(api.SDelIx, o, quoted("x")), "done null [1,y] 16"},
		{node(api.SDelIx, o, quoted("z")), "done null [2,x] 16"},
		{show(o), "done null [object,2,x] 15"},
		{node(api.SExpr, o), "done null [2,x] 15"},
		{answer(yes), "done true [] 6"},
		{node(api.SIf, yes, block(answer(whole(1))), block(answer(whole(2)))), "done 1 [] 9"},
		{node(api.SIf, no, block(answer(whole(1))), block(answer(whole(2)))), "done 2 [] 9"},
		{node(api.SIf, no, block(answer(whole(1))), block()), "done null [2,x] 16"},
		{node(api.SWhile, no, block(answer(whole(1)))), "done null [2,x] 15"},
		{node(api.SWhile, yes, block(answer(whole(1)))), "done 1 [] 9"},
	} {
		u := program(2, body(
			numbered(api.SGlobal, 0, obj), x.n,
			show(signed(api.EBuilt, api.BCount, o)), show(signed(api.EBuilt, api.BKey, o, whole(0))), answer(global(1)),
		))
		o, n := run(t, u, maxFuel, greatest)
		if got := told(o, n); got != x.want {
			t.Errorf("kind %d comes to %s, not to %s", x.n.Kind, got, x.want)
		}
		holdFuel(t, u, greatest, o, n)
	}
}

// P13.1: SLocal and ELocal by hand: the last local that there may be, and the last global.
func TestLastLocalByHand(t *testing.T) {
	f := api.Fn{Params: 6, Locals: 24, Body: body(
		show(local(23)), show(local(5)), numbered(api.SLocal, 23, sum(local(0), local(5))), numbered(api.SLocal, 0, whole(9)),
		numbered(api.SGlobal, 23, local(0)), answer(local(23)),
	)}
	u := program(24, body(
		show(node(api.ECall, fun(1), whole(1), whole(2), whole(3), whole(4), whole(5), whole(6))),
		show(global(23)), show(global(22)), answer(node(api.ECall, fun(1), whole(1), whole(2), whole(3), whole(4), whole(5), whole(60))),
	), f)
	if o, n := run(t, u, maxFuel, greatest); told(o, n) != "done 61 [null,6,7,9,null,null,60] 50" {
		t.Error(told(o, n))
	}
}
