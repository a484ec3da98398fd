package compile_test

import (
	"fmt"
	"strconv"
	"testing"

	"proteus/api"
	"proteus/scope"
)

// loopOf is a loop with so many least statements: it is of 6 instructions, and 4 for each.
func loopOf(n int) api.Node {
	within := block()
	for range n {
		within.Kids = append(within.Kids, expr(null()))
	}
	return node(api.SWhile, null(), within)
}

// filled are statements of just so many instructions, from 20 to 4500.
func filled(n int) []api.Node {
	var l []api.Node
	for n >= 126+20 {
		l, n = append(l, loopOf(30)), n-126
	}
	if n%2 == 1 {
		l, n = append(l, node(api.SIf, null(), block(), block())), n-7
	}
	if n%4 == 0 {
		l, n = append(l, loopOf(0)), n-6
	}
	return append(l, loopOf((n-6)/4))
}

// stringed are statements that have so many strings, each of them once.
func stringed(begin string, n int) []api.Node {
	var l []api.Node
	for at := range n {
		if at%maxKids == 0 {
			l = append(l, expr(object("")))
		}
		o := &l[len(l)-1].Kids[0]
		o.Names = append(o.Names, begin+strconv.Itoa(at))
		o.Kids = append(o.Kids, null())
	}
	return l
}

// towering is a statement that needs a stack of so many values, from 1 to 70: methods' calls, each as the last value of another one.
func towering(n int) api.Node {
	within := node(api.ECall, null())
	for range (n - 1) % 7 {
		within.Kids = append(within.Kids, null())
	}
	for range (n - 1) / 7 {
		within = named(api.EMeth, "x", null(), null(), null(), null(), null(), null(), within)
	}
	return expr(within)
}

// beyond is as wrong, of a unit that may be, but has too much.
func beyond(t *testing.T, what string, u api.Unit, want api.Errno) {
	t.Helper()
	if e := scope.Check(u); e != api.OK {
		t.Fatalf("the test's own unit may not be: %s: %v", what, e)
	}
	wrong(t, what, u, want)
}

// P15.1: as many instructions as a code may have, in any function, and some more.
func TestInstructions(t *testing.T) {
	for _, n := range []int{22, 23, 24, 25, 200, 3999, maxIns - 1, maxIns} {
		for f := range 3 {
			u := program(0, nil, api.Fn{}, api.Fn{})
			u.Fns[f].Body = filled(n - 2)
			if got := len(right(t, u).Codes[f].Ins); got != n {
				t.Errorf("%d instructions in function %d, not %d", got, f, n)
			}
		}
	}
	for _, n := range []int{maxIns + 1, maxIns + 2, maxIns + 3, maxIns + 4, 4400} {
		for f := range 3 {
			u := program(0, nil, api.Fn{}, api.Fn{})
			u.Fns[f].Body = filled(n - 2)
			beyond(t, fmt.Sprint(n, " instructions in function ", f), u, api.ErrFull)
		}
	}
	all := program(0, filled(maxIns-2))
	for range maxFns - 1 {
		all.Fns = append(all.Fns, api.Fn{Body: filled(maxIns - 2)})
	}
	right(t, all)
	all.Fns[maxFns-1].Body = filled(maxIns - 1)
	beyond(t, "one more in the last function", all, api.ErrFull)
}

// P15.1: very many instructions.
func TestVeryManyInstructions(t *testing.T) {
	wide := block()
	for range maxKids {
		wide.Kids = append(wide.Kids, loopOf(maxKids))
	}
	u := program(0, nil)
	for range maxKids {
		u.Fns[0].Body = append(u.Fns[0].Body, node(api.SWhile, null(), wide))
	}
	beyond(t, "a quarter of a million", u, api.ErrFull)
}

// P15.1: a stack of each depth that there may be, and deeper ones.
func TestStack(t *testing.T) {
	for n := 1; n <= 70; n++ {
		for f := range 2 {
			u := program(0, nil, api.Fn{Params: 2, Locals: 3})
			u.Fns[f].Body = body(expr(null()), towering(n), answer(null()))
			if n > maxStack {
				beyond(t, fmt.Sprint("a stack of ", n, " in function ", f), u, api.ErrDeep)
				continue
			}
			if got := right(t, u).Codes[f].Deep; got != n {
				t.Errorf("a stack of %d in function %d, not %d", got, f, n)
			}
		}
	}
	beyond(t, "a stack that is too deep behind a Ret", program(0, body(answer(null()), towering(maxStack+1))), api.ErrDeep)
	beyond(t, "a stack that is too deep behind a Jump", program(0, body(loopOf(1), towering(maxStack+1))), api.ErrDeep)
}

// P15.1: what lies beneath a deep stack counts, whatever laid it there; what came ahead of it and is taken again does not.
func TestStackOnOthers(t *testing.T) {
	of := func(n int) api.Node { return towering(n).Kids[0] }
	for _, x := range []struct {
		stmt api.Node
		deep int
	}{
		{named(api.SSet, "x", of(64), null()), 64},
		{named(api.SSet, "x", null(), of(63)), 64},
		{named(api.SSet, "x", null(), of(64)), 65},
		{node(api.SSetIx, of(64), null(), null()), 64},
		{node(api.SSetIx, null(), of(63), null()), 64},
		{node(api.SSetIx, null(), of(64), null()), 65},
		{node(api.SSetIx, null(), null(), of(62)), 64},
		{node(api.SSetIx, null(), null(), of(63)), 65},
		{node(api.SDelIx, null(), of(64)), 65},
		{expr(object("x", of(63))), 64},
		{expr(signed(api.EBin, api.Add, of(63), of(63))), 64},
		{expr(node(api.EAnd, of(63), of(63))), 63},
		{expr(node(api.EOr, of(63), null())), 63},
	} {
		u := program(0, body(x.stmt))
		if x.deep > maxStack {
			beyond(t, fmt.Sprint("a stack of ", x.deep), u, api.ErrDeep)
			continue
		}
		if got := right(t, u).Codes[0].Deep; got != x.deep {
			t.Errorf("%v: a stack of %d, not %d", x.stmt, got, x.deep)
		}
	}
}

// P15.1: as many strings as there may be, and one more, in one function and in all.
func TestStrings(t *testing.T) {
	for _, n := range []int{1, 40, 41, maxPool - 1, maxPool} {
		if p := right(t, program(0, stringed("x", n))); len(p.Pool) != n || p.Pool[n-1] != "x"+strconv.Itoa(n-1) {
			t.Errorf("the strings are %v", p.Pool)
		}
		if p := right(t, program(0, stringed("x", n), api.Fn{Body: stringed("x", n)}, api.Fn{Body: stringed("x", n-1)})); len(p.Pool) != n {
			t.Errorf("the strings are %v", p.Pool)
		}
	}
	for _, n := range []int{maxPool + 1, maxPool + 2, 10 * maxPool} {
		beyond(t, fmt.Sprint(n, " strings"), program(0, stringed("x", n)), api.ErrFull)
		beyond(t, fmt.Sprint(n, " strings in function 1"), program(0, nil, api.Fn{Body: stringed("x", n)}), api.ErrFull)
	}
	for n := range maxPool + 1 {
		right(t, program(0, stringed("x", n), api.Fn{Body: stringed("y", maxPool-n)}))
		beyond(t, "one more by function 2", program(0, stringed("x", n), api.Fn{Body: stringed("y", maxPool-n)}, api.Fn{Body: stringed("z", 1)}), api.ErrFull)
		beyond(t, "one more by function 1", program(0, stringed("x", n), api.Fn{Body: stringed("y", maxPool-n+1)}), api.ErrFull)
	}
}

// P15.1: the last string is one of an EStr, and the empty one counts.
func TestLastString(t *testing.T) {
	for _, last := range []api.Node{
		expr(quoted("")), expr(quoted("z")), expr(named(api.EGet, "z", null())), expr(named(api.EMeth, "z", null())),
		named(api.SSet, "z", null(), null()), named(api.SDel, "z", null()), expr(object("z", null())),
	} {
		if p := right(t, program(0, append(stringed("x", maxPool-1), last, last))); len(p.Pool) != maxPool {
			t.Errorf("%v: the strings are %v", last, p.Pool)
		}
		beyond(t, fmt.Sprint("one more by ", last), program(0, append(stringed("x", maxPool), last)), api.ErrFull)
	}
	right(t, program(0, append(stringed("x", maxPool), expr(quoted("x0")), expr(named(api.EGet, "x119", quoted("x60"))))))
}

// bad is a function that is wrong in one way, and what it comes to alone.
type bad struct {
	name string
	body []api.Node
	err  api.Errno
}

func bads() []bad {
	return []bad{
		{"too many instructions", filled(maxIns - 1), api.ErrFull},
		{"too deep a stack", body(towering(maxStack + 1)), api.ErrDeep},
		{"both", append(body(towering(maxStack+1)), filled(maxIns-1)...), api.ErrFull},
		{"both, the other way", append(filled(maxIns-1), towering(maxStack+1)), api.ErrFull},
	}
}

// P15.1: of several functions that are wrong the first one's error is told; ErrFull of the strings behind all functions'; and scope's ahead of all.
func TestFirstError(t *testing.T) {
	many := stringed("x", maxPool+1)
	for _, a := range bads() {
		for _, b := range bads() {
			beyond(t, a.name+", then "+b.name, program(0, a.body, api.Fn{Body: b.body}), a.err)
			beyond(t, a.name+", then "+b.name+", behind others", program(0, nil, api.Fn{}, api.Fn{Body: a.body}, api.Fn{}, api.Fn{Body: b.body}), a.err)
		}
		beyond(t, "too many strings, then "+a.name, program(0, many, api.Fn{}, api.Fn{Body: a.body}), a.err)
		beyond(t, a.name+", then too many strings", program(0, a.body, api.Fn{}, api.Fn{Body: many}), a.err)
		beyond(t, a.name+", and too many strings", program(0, append(append(body(), many...), a.body...)), a.err)
		name := named(api.EName, "a")
		wrong(t, a.name+", then a name", program(0, a.body, api.Fn{Body: body(expr(name))}), api.ErrArg)
		wrong(t, "a name, then "+a.name, program(0, body(expr(name)), api.Fn{Body: a.body}), api.ErrArg)
		wrong(t, a.name+", then too high a statement", program(0, a.body, api.Fn{Body: body(high(maxNest + 1))}), api.ErrDeep)
	}
	wrong(t, "too many strings, then a name", program(0, many, api.Fn{Body: body(expr(named(api.EName, "a")))}), api.ErrArg)
	wrong(t, "too many strings, then too high a statement", program(0, many, api.Fn{Body: body(high(maxNest + 1))}), api.ErrDeep)
}

// high is a statement of that height.
func high(n int) api.Node {
	within := null()
	for range n - 2 {
		within = signed(api.EUn, api.Not, within)
	}
	return expr(within)
}

// P15.1: a unit with as much of all as there may be.
func TestGreatest(t *testing.T) {
	u := program(maxVars, body(high(maxNest)))
	for len(u.Fns) < maxFns {
		u.Fns = append(u.Fns, api.Fn{Params: maxParams, Locals: maxVars, Body: body(numbered(api.SLocal, maxVars-1, numbered(api.EFun, maxFns-1)))})
	}
	for range maxKids - 1 {
		u.Fns[0].Body = append(u.Fns[0].Body, numbered(api.SGlobal, maxVars-1, whole(most)))
	}
	right(t, u)
}
