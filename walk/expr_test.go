package walk_test

import (
	"testing"

	"proteus/api"
)

// P13.1: the value, this, the local's, the global's; EFun.
func TestPlainExpressions(t *testing.T) {
	hold(t, []row{
		{"return null;", "done null [] 2"},
		{"return true;", "done true [] 2"},
		{"return false;", "done false [] 2"},
		{"return 0;", "done 0 [] 2"},
		{"return 4611686018427387903;", "done 4611686018427387903 [] 2"},
		{`return "a b";`, "done a b [] 2"},
		{`return "";`, "done  [] 2"},
		{"return this;", "done null [] 2"},
		{"return fn() { print 1; return 2; };", "done function [] 2"},
		{"let a = 5; return a;", "done 5 [] 4"},
		{"let a = 5; let b = 6; print b; return a;", "done 5 [6] 8"},
		{"print a; let a = 1; return a;", "done 1 [null] 6"},
		{"let f = fn(a, b) { let c = 3; print c; print b; return a; }; return f(1, 2);", "done 1 [3,2] 15"},
	})
}

// P13.1: what is equal tells values apart that are shown alike.
func TestValuesAreThemselves(t *testing.T) {
	hold(t, []row{
		{"let f = fn() {}; let g = fn() {}; print f == f; print f == g; return fn() {} == f;", "done false [true,false] 16"},
		{"let o = {}; let p = {}; print o == o; print o == p; return {} == o;", "done false [true,false] 16"},
		{`print null == "null"; print 1 == "1"; print true == 1; print null == false; return "a" == "a";`, "done true [false,false,false,false] 20"},
		{"let f = fn() { return this == null; }; return f();", "done true [] 9"},
		{"let f = fn(a) { return a == null; }; print f(null); return f(0);", "done false [true] 18"},
	})
}

// P13.1: an object comes ahead of its Kids; names twice are one property.
func TestObjects(t *testing.T) {
	hold(t, []row{
		{"return {};", "done object [] 2"},
		{"return {a: 1, b: 2};", "done object [] 4"},
		{"return {a: 1, b: 2}.b;", "done 2 [] 5"},
		{"return {a: 1, a: 2}.a;", "done 2 [] 5"},
		{"return count({a: 1, b: 3, a: 2});", "done 2 [] 6"},
		{"return key({a: 1, b: 3, a: 2}, 0);", "done a [] 7"},
		{"return {a: {b: {c: 4}}}.a.b.c;", "done 4 [] 8"},
		{"let say = fn(x) { print x; return x; }; let o = {b: say(2), a: say(1)}; print key(o, 0); return o.a;", "done 1 [2,1,b] 25"},
		{"return {if: 1, fn: 2, this: 3}.fn;", "done 2 [] 6"},
		{"let o = {a: 1}; let f = fn() { return {a: o.a + 1}; }; o = f(); o = f(); return o.a;", "done 3 [] 26"},
	})
}

// P13.1: each sign over one.
func TestUn(t *testing.T) {
	hold(t, []row{
		{"return -5;", "done -5 [] 3"},
		{"return - -5;", "done 5 [] 4"},
		{"return -0;", "done 0 [] 3"},
		{"return -(-4611686018427387903 - 1);", "done -4611686018427387904 [] 6"},
		{"return !0;", "done false [] 3"},
		{"return !null;", "done true [] 3"},
		{"return !false;", "done true [] 3"},
		{`return !"";`, "done false [] 3"},
		{"return !{};", "done false [] 3"},
		{"return !fn() {};", "done false [] 3"},
		{"return !!true;", "done true [] 4"},
	})
}

// P13.1: each sign between two, and which one is the first.
func TestBin(t *testing.T) {
	for _, x := range []struct{ sign, ints, strs, alike string }{
		{"+", "done 9", "done ba", "done 4"}, {"-", "done 5", "failed 30", "done 0"}, {"*", "done 14", "failed 30", "done 4"}, {"/", "done 3", "failed 30", "done 1"}, {"%", "done 1", "failed 30", "done 0"},
		{"<", "done false", "done false", "done false"}, {"<=", "done false", "done false", "done true"}, {">", "done true", "done true", "done false"}, {">=", "done true", "done true", "done true"},
		{"==", "done false", "done false", "done true"}, {"!=", "done true", "done true", "done false"},
	} {
		hold(t, []row{
			{"return 7 " + x.sign + " 2;", x.ints + " [] 4"},
			{`return "b" ` + x.sign + ` "a";`, x.strs + " [] 4"},
			{"return 2 " + x.sign + " 2;", x.alike + " [] 4"},
			{"let s = fn(x) { print x; return x; }; return s(7) " + x.sign + " s(2);", x.ints + " [7,2] 18"},
		})
	}
	hold(t, []row{
		{"return 4611686018427387903 + 1;", "done -4611686018427387904 [] 4"},
		{"return -7 / 2;", "done -3 [] 5"},
		{"return -7 % 2;", "done -1 [] 5"},
		{"return 1 + 2 * 3 - 4;", "done 3 [] 8"},
	})
}

// P13.1: either side, and what is not walked then.
func TestAndOr(t *testing.T) {
	for _, x := range []struct {
		first, shown string
		truth        bool
	}{{"null", "null", false}, {"false", "false", false}, {"true", "true", true}, {"0", "0", true}, {`""`, "", true}, {"{}", "object", true}, {"s", "function", true}} {
		and, or := x.shown+" ["+x.shown+"] 11", "2 ["+x.shown+",2] 18"
		if x.truth {
			and, or = or, and
		}
		s := "let s = fn(x) { print x; return x; }; return s(" + x.first + ")"
		hold(t, []row{{s + " && s(2);", "done " + and}, {s + " || s(2);", "done " + or}})
	}
	hold(t, []row{
		{"return null || false;", "done false [] 4"},
		{"return 1 && null;", "done null [] 4"},
		{"return null && 1 / 0;", "done null [] 3"},
		{"return 1 || 1 / 0;", "done 1 [] 3"},
		{"return 1 && 1 / 0;", "failed 31 [] 6"},
		{"return null || 1 / 0;", "failed 31 [] 6"},
		{"return 1 / 0 && 1;", "failed 31 [] 5"},
		{"return null || 0 && 5;", "done 5 [] 6"},
	})
}

// P13.1: of the object itself, of its chain, and of nobody.
func TestGetAndIndex(t *testing.T) {
	hold(t, []row{
		{"return {a: 1}.a;", "done 1 [] 4"},
		{"return {a: 1}.b;", "done null [] 4"},
		{`return {a: 1}["a"];`, "done 1 [] 5"},
		{`return {a: 1}["b"];`, "done null [] 5"},
		{`return {a: 1}[""];`, "done null [] 5"},
		{`let o = {}; o["no name"] = 4; o[""] = 5; print o["no name"]; return o[""];`, "done 5 [4] 18"},
		{`return {ab: 7}["a" + "b"];`, "done 7 [] 7"},
		{"let p = {x: 1}; let o = setproto({}, p); print o.x; p.x = 2; print o.x; o.x = 3; print o.x; return p.x;", "done 2 [1,2,3] 25"},
		{"let a = {x: 1, y: 1, z: 1}; let b = setproto({x: 2, y: 2}, a); let c = setproto({x: 3}, b); print c.x; print c.y; print c.z; return c.w;", "done null [3,2,1] 28"},
		{"let p = {x: 1}; let o = setproto({x: null}, p); return o.x;", "done null [] 11"},
		{`let s = fn(x) { print x; return x; }; return s({})[s("k")];`, "done null [object,k] 18"},
	})
}

// P13.1: each built-in call.
func TestBuilt(t *testing.T) {
	hold(t, []row{
		{"return count({});", "done 0 [] 3"},
		{"return count({a: 1, b: 2, c: 3});", "done 3 [] 6"},
		{"return count(setproto({a: 1}, {b: 2, c: 3}));", "done 1 [] 8"},
		{"return key({a: 1, b: 2}, 0);", "done a [] 6"},
		{"return key({a: 1, b: 2}, 1);", "done b [] 6"},
		{"return key({a: 1, b: 2}, 2);", "done null [] 6"},
		{"return key({a: 1, b: 2}, -1);", "done null [] 7"},
		{"return key({}, 0);", "done null [] 4"},
		{"return key({a: 1}, 4611686018427387903);", "done null [] 5"},
		{"return key({a: 1}, -4611686018427387903 - 1);", "done null [] 8"},
		{"return key(setproto({}, {a: 1}), 0);", "done null [] 7"},
		{`return len(key({abc: 1}, 0));`, "done 3 [] 6"},
		{`return has({a: null}, "a");`, "done true [] 5"},
		{`return has({a: 1}, "b");`, "done false [] 5"},
		{`return has({a: 1}, "");`, "done false [] 5"},
		{`return has(setproto({}, {a: 1}), "a");`, "done false [] 7"},
		{"return proto({});", "done null [] 3"},
		{"let p = {}; return proto(setproto({}, p)) == p;", "done true [] 9"},
		{"let p = {}; let q = setproto({}, p); return proto(proto(setproto({}, q))) == p;", "done true [] 14"},
		{"let p = {}; let o = {}; return setproto(o, p) == o;", "done true [] 10"},
		{"let o = setproto({}, {a: 1}); setproto(o, null); print o.a; return proto(o);", "done null [null] 15"},
		{"let o = {}; return setproto(o, null) == o;", "done true [] 8"},
		{`return len("");`, "done 0 [] 3"},
		{`return len("\x00ab");`, "done 3 [] 3"},
		{`return str(5) + str("a") + str(null) + str(true) + str({}) + str(fn() {});`, "done 5anulltrueobjectfunction [] 18"},
		{`return len(str(-12));`, "done 3 [] 5"},
		{`return str(1) == "1";`, "done true [] 5"},
	})
}

// P13.1: the Kids of a built-in call are walked from the left on.
func TestBuiltWalksFromTheLeft(t *testing.T) {
	s := "let s = fn(i, v) { print i; return v; }; let o = {a: 1}; return "
	hold(t, []row{
		{s + "count(s(1, o));", "done 1 [1] 15"},
		{s + "key(s(1, o), s(2, 0));", "done a [1,2] 23"},
		{s + `has(s(1, o), s(2, "a"));`, "done true [1,2] 23"},
		{s + "proto(s(1, o));", "done null [1] 15"},
		{s + "setproto(s(1, o), s(2, {})) == o;", "done true [1,2] 25"},
		{s + `len(s(1, "ab"));`, "done 2 [1] 15"},
		{s + `str(s(1, "ab"));`, "done ab [1] 15"},
	})
}

// P13.1: each expression of a unit that was built by hand; of a function 0 that is named, too.
func TestExpressionsByHand(t *testing.T) {
	obj := api.Node{Kind: api.EObj, Names: []string{"x", "y"}, Kids: body(whole(7), node(api.ENull))}
	for _, x := range []struct {
		n    api.Node
		want string
	}{
		{node(api.ENull), "done null [] 2"},
		{node(api.EThis), "done null [] 2"},
		{numbered(api.EBool, 0), "done false [] 2"},
		{numbered(api.EBool, 1), "done true [] 2"},
		{whole(most), "done 4611686018427387903 [] 2"},
		{quoted("\xff\n"), "done \xff\n [] 2"},
		{global(1), "done null [] 2"},
		{fun(0), "done function [] 2"},
		{fun(1), "done function [] 2"},
		{obj, "done object [] 4"},
		{signed(api.EUn, api.Neg, whole(3)), "done -3 [] 3"},
		{signed(api.EUn, api.Not, whole(3)), "done false [] 3"},
		{sum(whole(3), whole(4)), "done 7 [] 4"},
		{node(api.EAnd, whole(3), whole(4)), "done 4 [] 4"},
		{node(api.EOr, whole(3), whole(4)), "done 3 [] 3"},
		{named(api.EGet, "x", obj), "done 7 [] 5"},
		{node(api.EIndex, obj, quoted("x")), "done 7 [] 6"},
		{node(api.ECall, fun(1), whole(5)), "done 5 [5] 8"},
		{named(api.EMeth, "f", api.Node{Kind: api.EObj, Names: []string{"f"}, Kids: body(fun(1))}, whole(6)), "done 6 [6] 9"},
		{signed(api.EBuilt, api.BCount, obj), "done 2 [] 5"},
		{signed(api.EBuilt, api.BKey, obj, whole(1)), "done y [] 6"},
		{signed(api.EBuilt, api.BHas, obj, quoted("y")), "done true [] 6"},
		{signed(api.EBuilt, api.BProto, obj), "done null [] 5"},
		{signed(api.EBuilt, api.BSetProto, obj, node(api.ENull)), "done object [] 6"},
		{signed(api.EBuilt, api.BLen, quoted("abc")), "done 3 [] 3"},
		{signed(api.EBuilt, api.BStr, whole(12)), "done 12 [] 3"},
	} {
		u := program(2, body(answer(x.n)), api.Fn{Params: 1, Locals: 1, Body: body(show(local(0)), answer(local(0)))})
		o, n := run(t, u, maxFuel, greatest)
		if got := told(o, n); got != x.want {
			t.Errorf("kind %d, op %d, comes to %s, not to %s", x.n.Kind, x.n.Op, got, x.want)
		}
		holdFuel(t, u, greatest, o, n)
	}
}
