package compile_test

import (
	"math"
	"testing"

	"proteus/api"
	"proteus/compile"
	"proteus/scope"
)

// P15.1: units that scope.Check refuses come to its error.
func TestWrongUnits(t *testing.T) {
	fns := func(n int) api.Unit { return api.Unit{Fns: make([]api.Fn, n)} }
	fn := func(f api.Fn) api.Unit { return program(2, nil, f) }
	var many []api.Node
	for range maxKids + 1 {
		many = append(many, expr(null()))
	}
	for what, u := range map[string]api.Unit{
		"nothing":                 {},
		"no functions":            {Globals: 3, Fns: []api.Fn{}},
		"too few globals":         program(-1, nil),
		"too many globals":        program(maxVars+1, nil),
		"globals far off":         program(math.MaxInt, nil),
		"globals far below":       program(math.MinInt, nil),
		"too many functions":      fns(maxFns + 1),
		"parameters of the whole": {Fns: []api.Fn{{Params: 1, Locals: 1}}},
		"locals of the whole":     {Fns: []api.Fn{{Locals: 1}}},
		"too few parameters":      fn(api.Fn{Params: -1}),
		"too many parameters":     fn(api.Fn{Params: maxParams + 1, Locals: maxVars}),
		"fewer locals":            fn(api.Fn{Params: 2, Locals: 1}),
		"too many locals":         fn(api.Fn{Locals: maxVars + 1}),
		"too many statements":     fn(api.Fn{Body: many}),
		"of the whole, too":       program(0, many),
		"many, as a block":        fn(api.Fn{Body: body(node(api.SWhile, null(), block(many...)))}),
	} {
		if scope.Check(u) != api.ErrArg {
			t.Fatal("the test's own unit may be:", what)
		}
		wrong(t, what, u, api.ErrArg)
	}
	right(t, fns(maxFns))
}

// P15.1: nodes that may not be, in the first function and in a later one.
func TestWrongNodes(t *testing.T) {
	for what, n := range map[string]api.Node{
		"an expression":         null(),
		"a block":               block(),
		"no kind":               {},
		"a kind that is none":   {Kind: 35},
		"a kind below":          {Kind: math.MinInt},
		"a kind far off":        {Kind: math.MaxInt},
		"a name":                expr(named(api.EName, "a")),
		"a function":            expr(node(api.EFn)),
		"an SLet":               named(api.SLet, "a", null()),
		"an SAssign":            named(api.SAssign, "a", null()),
		"no such local":         expr(local(1)),
		"no local":              expr(local(-1)),
		"no such local to set":  numbered(api.SLocal, 1, null()),
		"no such global":        expr(global(2)),
		"no such global to set": numbered(api.SGlobal, -1, null()),
		"no such function":      expr(numbered(api.EFun, 2)),
		"no function":           expr(numbered(api.EFun, -1)),
		"too few kids":          node(api.SPrint),
		"too many kids":         node(api.SPrint, null(), null()),
		"a number below":        expr(whole(-1)),
		"a number beyond":       expr(whole(most + 1)),
		"a bool of 2":           expr(numbered(api.EBool, 2)),
		"no names":              expr(node(api.EObj, null())),
		"no kids":               expr(object("x")),
		"a key of two words":    expr(api.Node{Kind: api.EObj, Names: []string{"a b"}, Kids: body(null())}),
		"no property":           expr(named(api.EGet, "", null())),
		"too many arguments":    expr(node(api.ECall, null(), null(), null(), null(), null(), null(), null(), null())),
		"no callee":             expr(node(api.ECall)),
		"no object":             expr(named(api.EMeth, "x")),
		"no sign":               expr(signed(api.EUn, 3, null())),
		"no sign between":       expr(signed(api.EBin, 12, null(), null())),
		"no built-in":           expr(signed(api.EBuilt, 8, null())),
		"too few for one":       expr(signed(api.EBuilt, api.BHas, null())),
		"no block":              node(api.SWhile, null(), null()),
		"one block":             node(api.SIf, null(), block()),
		"a block in a block":    node(api.SWhile, null(), block(block())),
		"a sign where none is":  {Kind: api.SPrint, Op: 1, Kids: body(null())},
		"a statement as one":    expr(expr(null())),
	} {
		for f := range 2 {
			u := program(2, nil, api.Fn{Locals: 1})
			u.Fns[f].Body = body(expr(null()), n)
			if scope.Check(u) != api.ErrArg {
				t.Fatal("the test's own unit may be:", what)
			}
			wrong(t, what, u, api.ErrArg)
		}
	}
}

// P15.1: statements that are too high, ahead of all else that is wrong.
func TestTooHigh(t *testing.T) {
	right(t, program(0, body(high(maxNest))))
	for _, n := range []int{maxNest + 1, maxNest + 2, 100, 5000} {
		wrong(t, "too high", program(0, body(high(n))), api.ErrDeep)
		wrong(t, "too high, behind a name", program(0, body(expr(named(api.EName, "a"))), api.Fn{Body: body(high(n))}), api.ErrDeep)
		wrong(t, "too high, of no globals", program(-1, nil, api.Fn{Body: body(high(n))}), api.ErrDeep)
	}
}

// P15.1: At is not asked, and does not show.
func TestAt(t *testing.T) {
	plain := program(1, body(expr(global(0)), node(api.SWhile, null(), block())))
	want := right(t, plain)
	placed := spare(plain)
	placed.Fns[0].Body[0].At, placed.Fns[0].Body[1].Kids[1].At, placed.Fns[0].Body[0].Kids[0].At = 7, -3, math.MaxInt
	if got := right(t, placed); toldCode(got.Codes[0]) != toldCode(want.Codes[0]) {
		t.Error("it comes to", got)
	}
}

// P15.2: the sum of A of all Ticks of all codes, whether the program is right or not.
func TestTicks(t *testing.T) {
	tick := func(a int) api.Instr { return api.Instr{Op: api.Tick, A: a} }
	of := func(codes ...[]api.Instr) api.Program {
		var p api.Program
		for _, l := range codes {
			p.Codes = append(p.Codes, api.Code{Ins: l})
		}
		return p
	}
	list := func(l ...api.Instr) []api.Instr { return l }
	for _, x := range []struct {
		p    api.Program
		want int
	}{
		{api.Program{}, 0},
		{api.Program{Globals: 9, Pool: []string{"Tick"}, Codes: []api.Code{}}, 0},
		{of(nil), 0},
		{of(list(), list()), 0},
		{of(list(tick(1))), 1},
		{of(list(tick(1000), api.Instr{Op: api.PushInt, A: 7}, tick(1))), 1001},
		{of(list(api.Instr{Op: api.PushInt, A: 7}, api.Instr{Op: api.Jump, A: 1}, api.Instr{Op: 0, A: 5}, api.Instr{Op: 33, A: 5}, api.Instr{Op: -1, A: 5}, api.Instr{Op: math.MaxInt, A: 5})), 0},
		{of(list(tick(0))), 0},
		{of(list(tick(-1))), -1},
		{of(list(tick(-5), tick(3), tick(0))), -2},
		{of(list(tick(1001), tick(100000))), 101001},
		{of(list(tick(1)), nil, list(tick(2), tick(3)), list(), list(tick(4))), 10},
		{of(list(tick(math.MaxInt)), list(tick(math.MinInt))), -1},
		{of(list(tick(math.MaxInt))), math.MaxInt},
		{of(list(tick(math.MinInt))), math.MinInt},
		{of(list(api.Instr{Op: api.Tick, A: 3, B: 9})), 3},
		{api.Program{Globals: -1, Codes: []api.Code{{Params: 50, Locals: 60, Sites: 70, Deep: 80, Ins: list(tick(6))}}}, 6},
		{of(list(api.Instr{Op: api.Ret}, tick(2), api.Instr{Op: api.Jump, A: -1}, tick(2))), 4},
	} {
		if got := compile.Ticks(x.p); got != x.want {
			t.Errorf("%v has %d steps, not %d", x.p, got, x.want)
		}
	}
}
