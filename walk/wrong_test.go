package walk_test

import (
	"slices"
	"strings"
	"testing"

	"proteus/api"
	"proteus/walk"
)

// P13.1: units that may not be: the empty Outcome, and 0; so it is wherever they are wrong.
func TestWrongUnits(t *testing.T) {
	ok := body(show(whole(1)))
	deep := whole(1)
	for range 11 {
		deep = signed(api.EUn, api.Not, deep)
	}
	many := slices.Repeat(ok, 41)
	for i, u := range []api.Unit{
		{},
		{Globals: 3},
		{Globals: -1, Fns: []api.Fn{{Body: ok}}},
		{Globals: 25, Fns: []api.Fn{{Body: ok}}},
		{Fns: slices.Repeat([]api.Fn{{Body: ok}}, 33)},
		{Fns: []api.Fn{{Params: 1, Body: ok}}},
		{Fns: []api.Fn{{Locals: 1, Body: ok}}},
		program(0, ok, api.Fn{Params: 7, Locals: 7}),
		program(0, ok, api.Fn{Params: 2, Locals: 1}),
		program(0, ok, api.Fn{Params: -1}),
		program(0, ok, api.Fn{Locals: 25}),
		program(0, many),
		program(0, ok, api.Fn{Body: many}),
		program(0, append(slices.Clone(ok), show(local(0)))),
		program(1, append(slices.Clone(ok), show(global(1)))),
		program(1, append(slices.Clone(ok), show(global(-1)))),
		program(0, append(slices.Clone(ok), show(fun(1)))),
		program(0, append(slices.Clone(ok), show(fun(-1)))),
		program(0, append(slices.Clone(ok), numbered(api.SGlobal, 0, whole(1)))),
		program(0, append(slices.Clone(ok), numbered(api.SLocal, 0, whole(1)))),
		program(0, ok, api.Fn{Locals: 2, Body: body(show(local(2)))}),
		program(0, append(slices.Clone(ok), show(named(api.EName, "a")))),
		program(0, append(slices.Clone(ok), show(node(api.EFn)))),
		program(0, append(slices.Clone(ok), named(api.SLet, "a", whole(1)))),
		program(0, append(slices.Clone(ok), named(api.SAssign, "a", whole(1)))),
		program(0, append(slices.Clone(ok), block(ok...))),
		program(0, append(slices.Clone(ok), whole(1))),
		program(0, append(slices.Clone(ok), node(api.SPrint))),
		program(0, append(slices.Clone(ok), show(whole(-1)))),
		program(0, append(slices.Clone(ok), show(signed(api.EUn, 3, whole(1))))),
		program(0, append(slices.Clone(ok), show(signed(api.EBin, 12, whole(1), whole(1))))),
		program(0, append(slices.Clone(ok), show(signed(api.EBuilt, 8, whole(1))))),
		program(0, append(slices.Clone(ok), show(quoted(strings.Repeat("x", 257))))),
		program(0, append(slices.Clone(ok), api.Node{})),
		program(0, append(slices.Clone(ok), show(deep))),
		program(0, ok, api.Fn{Body: body(show(deep))}),
		program(0, append(slices.Clone(ok), node(api.SIf, whole(1), block()))),
		program(0, append(slices.Clone(ok), node(api.SWhile, whole(1), show(whole(1))))),
	} {
		for _, fuel := range fuels() {
			if o, n := walk.Run(u, fuel, greatest); !same(o, api.Outcome{}) || n != 0 {
				t.Errorf("unit %d, fuel %d, comes to %s", i, fuel, told(o, n))
			}
		}
	}
	if o, n := run(t, program(0, append(slices.Clone(ok), show(deep.Kids[0]))), maxFuel, greatest); told(o, n) != "done null [1,true] 14" {
		t.Errorf("just so deep as it may be: %s", told(o, n))
	}
}

// sorts are values of each kind, as texts.
func sorts() map[string]string {
	return map[string]string{"null": "null", "bool": "true", "int": "1", "str": `"a"`, "obj": "{}", "fun": "fn() {}"}
}

// others are those that are of none of these kinds.
func others(kinds ...string) []string {
	var out []string
	for kind, s := range sorts() {
		if !slices.Contains(kinds, kind) {
			out = append(out, s)
		}
	}
	slices.Sort(out)
	return out
}

// holdWrong asks that a statement fails with ErrType for each value of the wrong kinds, having printed that; W stands for the value. s(i, v) prints i, and is v.
func holdWrong(t *testing.T, stmt, out string, right ...string) {
	t.Helper()
	for kind, v := range sorts() {
		src := "let s = fn(i, v) { print i; return v; }; " + strings.ReplaceAll(stmt, "W", v) + " print 9;"
		o, n := holdModel(t, load(t, src), maxFuel, greatest)
		got := strings.Join(o.Out, ",")
		if slices.Contains(right, kind) {
			if o.Err == api.ErrType || !strings.HasPrefix(got, out) {
				t.Errorf("%s comes to %s", src, told(o, n))
			}
			continue
		}
		if o.Kind != api.Failed || o.Err != api.ErrType || o.V != "" || got != out {
			t.Errorf("%s comes to %s, not to ErrType with [%s]", src, told(o, n), out)
		}
	}
}

// P13.1: ErrType of each node, with a value of each wrong kind; and which Kids are walked ahead of it.
func TestErrType(t *testing.T) {
	holdWrong(t, "s(1, W).x;", "1", "obj")
	holdWrong(t, `s(1, W)[s(2, "a")];`, "1,2", "obj")
	holdWrong(t, "s(1, {a: 1})[s(2, W)];", "1,2", "str")
	holdWrong(t, "s(1, W)[s(2, null)];", "1,2")
	holdWrong(t, "s(1, W)(s(2, 0), s(3, 0));", "1,2,3", "fun")
	holdWrong(t, "s(1, W)();", "1", "fun")
	holdWrong(t, "s(1, W).m();", "1")
	holdWrong(t, "s(1, {m: W}).m(s(2, 0), s(3, 0));", "1,2,3", "fun")
	holdWrong(t, "s(1, setproto({}, {m: W})).m(s(2, 0));", "1,2", "fun")
	holdWrong(t, "s(1, W).x = s(2, 0);", "1,2", "obj")
	holdWrong(t, `s(1, W)[s(2, "a")] = s(3, 0);`, "1,2,3", "obj")
	holdWrong(t, "s(1, {})[s(2, W)] = s(3, 0);", "1,2,3", "str")
	holdWrong(t, "delete s(1, W).x;", "1", "obj")
	holdWrong(t, `delete s(1, W)[s(2, "a")];`, "1,2", "obj")
	holdWrong(t, "delete s(1, {a: 1})[s(2, W)];", "1,2", "str")
	holdWrong(t, "-s(1, W);", "1", "int")
	holdWrong(t, "!s(1, W);", "1", "null", "bool", "int", "str", "obj", "fun")
}

// P13.1: a method of what is no object: the arguments are not walked; of an object that has none: they are.
func TestErrTypeOfMethods(t *testing.T) {
	s := "let s = fn(i, v) { print i; return v; }; "
	for _, v := range others("obj") {
		o, n := holdModel(t, load(t, s+"s(1, "+v+").m(s(2, 0));"), maxFuel, greatest)
		if told(o, n) != "failed 30 [1] 12" {
			t.Errorf("of %s: %s", v, told(o, n))
		}
	}
	hold(t, []row{
		{s + "s(1, {}).m(s(2, 0), s(3, 1 / 0));", "failed 31 [1,2] 26"},
		{s + "s(1, {}).m(s(2, 0));", "failed 30 [1,2] 20"},
		{s + "s(1, null).m(1 / 0);", "failed 30 [1] 12"},
	})
}

// P13.1: ErrType of signs between two, of all kinds on both sides.
func TestErrTypeOfSigns(t *testing.T) {
	for _, sign := range []string{"+", "-", "*", "/", "%", "<", "<=", ">", ">=", "==", "!="} {
		for a, v := range sorts() {
			for b, w := range sorts() {
				fine := sign == "==" || sign == "!=" || a == "int" && b == "int" || a == "str" && b == "str" && !strings.Contains("-*/%", sign)
				src := "let s = fn(i, v) { print i; return v; }; s(1, " + v + ") " + sign + " s(2, " + w + "); print 3;"
				want := "failed 30 [1,2] 20"
				if fine {
					want = "done null [1,2,3] 22"
				}
				if o, n := holdModel(t, load(t, src), maxFuel, greatest); told(o, n) != want {
					t.Errorf("%s comes to %s, not to %s", src, told(o, n), want)
				}
			}
		}
	}
}

// P13.1: ErrType of built-in calls; all Kids are walked ahead of it.
func TestErrTypeOfBuilt(t *testing.T) {
	holdWrong(t, "count(s(1, W));", "1", "obj")
	holdWrong(t, "key(s(1, W), s(2, 0));", "1,2", "obj")
	holdWrong(t, "key(s(1, {a: 1}), s(2, W));", "1,2", "int")
	holdWrong(t, `has(s(1, W), s(2, "a"));`, "1,2", "obj")
	holdWrong(t, "has(s(1, {a: 1}), s(2, W));", "1,2", "str")
	holdWrong(t, "proto(s(1, W));", "1", "obj")
	holdWrong(t, "setproto(s(1, W), s(2, {}));", "1,2", "obj")
	holdWrong(t, "setproto(s(1, W), s(2, null));", "1,2", "obj")
	holdWrong(t, "setproto(s(1, {}), s(2, W));", "1,2", "obj", "null")
	holdWrong(t, "len(s(1, W));", "1", "str")
	holdWrong(t, "str(s(1, W));", "1", "null", "bool", "int", "str", "obj", "fun")
}

// P13.1: division by zero; prototypes that would go round, and such as would not.
func TestErrZeroAndErrCycle(t *testing.T) {
	hold(t, []row{
		{"print 1 / 0;", "failed 31 [] 4"},
		{"print 1 % 0;", "failed 31 [] 4"},
		{"print 0 / 0;", "failed 31 [] 4"},
		{"print 0 / 1; print 0 % 1;", "done null [0,0] 8"},
		{"let a = {}; setproto(a, a);", "failed 32 [] 6"},
		{"let a = {}; let b = setproto({}, a); setproto(a, b);", "failed 32 [] 10"},
		{"let a = {}; let b = setproto({}, a); let c = setproto({}, b); print 1; setproto(a, c); print 2;", "failed 32 [1] 16"},
		{"let a = {}; let b = setproto({}, a); setproto(b, null); setproto(a, b); return proto(a) == b;", "done true [] 19"},
		{"let a = {}; let b = setproto({}, a); setproto(b, a); return proto(b) == a;", "done true [] 15"},
		{"let f = fn(x) { return 1 / x; }; print f(1); print f(0); print 3;", "failed 31 [1] 18"},
		{"let f = fn() { while (true) { 1 / 0; } }; if (f()) {}", "failed 31 [] 12"},
	})
}

// P13.1: several errors at once: the one that is walked first.
func TestSeveralErrors(t *testing.T) {
	hold(t, []row{
		{"(1 / 0)(null.x);", "failed 31 [] 5"},
		{"null.x + 1 / 0;", "failed 30 [] 4"},
		{"1 / 0 + null.x;", "failed 31 [] 5"},
		{"null.x = 1 / 0;", "failed 31 [] 5"},
		{"null[1] = 1 / 0;", "failed 31 [] 6"},
		{"null[1 / 0] = null.x;", "failed 31 [] 5"},
		{"(1 / 0)[null.x] = 1;", "failed 31 [] 4"},
		{"delete null[1 / 0];", "failed 31 [] 5"},
		{"null[1 / 0];", "failed 31 [] 6"},
		{"null(1 / 0);", "failed 31 [] 6"},
		{"null.m(1 / 0);", "failed 30 [] 3"},
		{"setproto(1, 1 / 0);", "failed 31 [] 6"},
		{"let a = {}; setproto(a, setproto(a, a));", "failed 32 [] 8"},
		{"key(null, 1 / 0);", "failed 31 [] 6"},
		{"has(1 / 0, null.x);", "failed 31 [] 5"},
		{"-(1 / 0);", "failed 31 [] 5"},
		{"!(1 / 0);", "failed 31 [] 5"},
		{"print null.x; print 1 / 0;", "failed 30 [] 3"},
		{"while (1 / 0) { null.x; }", "failed 31 [] 4"},
		{"if (1 / 0) { null.x; }", "failed 31 [] 4"},
		{"return 1 / 0 + null.x;", "failed 31 [] 5"},
		{"let a = 1 / 0; null.x;", "failed 31 [] 4"},
		{"let f = fn() { let a = 1 / 0; null.x; }; f();", "failed 31 [] 9"},
	})
	l := api.Limits{}
	for _, x := range []row{
		{"{a: 1 / 0};", "limit 40 [] 2"},
		{`1 / 0 + {} + ("a" + "b");`, "failed 31 [] 6"},
		{`("a" + "b") / {};`, "limit 43 [] 5"},
		{`{} / ("a" + "b");`, "limit 40 [] 3"},
		{`let f = fn(x) {}; f("a" + "b");`, "limit 43 [] 8"},
		{`let f = fn(x) {}; f({});`, "limit 40 [] 6"},
		{`"a" + null;`, "failed 30 [] 4"},
		{`str(1) + {};`, "limit 43 [] 4"},
		{`null.m({});`, "failed 30 [] 3"},
		{`null({});`, "limit 40 [] 4"},
	} {
		holdWith(t, x, l)
	}
	l.Objects = 1
	for _, x := range []row{
		{"{a: 1 / 0};", "failed 31 [] 5"},
		{"{a: 1};", "limit 42 [] 3"},
		{"{a: {}};", "limit 40 [] 3"},
		{"{}.a = 1 / 0;", "failed 31 [] 5"},
		{"{}.a = 1;", "limit 42 [] 3"},
		{`{}[1] = 1;`, "failed 30 [] 4"},
		{`{}["a"] = 1;`, "limit 42 [] 4"},
	} {
		holdWith(t, x, l)
	}
}
