package compile_test

import (
	"strings"
	"testing"

	"proteus/api"
)

// P15.1: places, with blocks that are empty, and one inside the other. The last place of each is that of the PushNull at the end, where it is the last statement of the body.
func TestPlaces(t *testing.T) {
	this := node(api.EThis)
	hold(t, []form{
		{node(api.SIf, this, block(), block()), "0 1: ., ., PushThis, JumpNot 6, ., Jump 7, .", ""},
		{node(api.SIf, this, block(expr(null())), block()), "0 1: ., ., PushThis, JumpNot 10, ., ., ., PushNull, Pop, Jump 11, .", ""},
		{node(api.SIf, this, block(), block(expr(null()))), "0 1: ., ., PushThis, JumpNot 6, ., Jump 11, ., ., ., PushNull, Pop", ""},
		{node(api.SWhile, this, block()), "0 1: ., ., PushThis, JumpNot 6, ., Jump 1", ""},
		{node(api.SWhile, this, block(answer(null()))), "0 1: ., ., PushThis, JumpNot 10, ., ., ., PushNull, Ret, Jump 1", ""},
		{node(api.SWhile, this, block(node(api.SWhile, null(), block()))), "0 1: ., ., PushThis, JumpNot 12, ., ., ., PushNull, JumpNot 11, ., Jump 6, Jump 1", ""},
		{node(api.SWhile, this, block(node(api.SIf, null(), block(), block()))), "0 1: ., ., PushThis, JumpNot 13, ., ., ., PushNull, JumpNot 11, ., Jump 12, ., Jump 1", ""},
		{node(api.SIf, this, block(node(api.SWhile, null(), block())), block(node(api.SIf, null(), block(), block()))), "0 1: ., ., PushThis, JumpNot 12, ., ., ., PushNull, JumpNot 11, ., Jump 6, Jump 20, ., ., ., PushNull, JumpNot 19, ., Jump 20, .", ""},
		{expr(node(api.EAnd, node(api.EOr, this, null()), whole(1))), "0 1: ., ., ., ., PushThis, KeepOr 8, ., PushNull, KeepAnd 11, ., PushInt 1, Pop", ""},
		{expr(node(api.EOr, this, node(api.EAnd, null(), whole(1)))), "0 1: ., ., ., PushThis, KeepOr 11, ., ., PushNull, KeepAnd 11, ., PushInt 1, Pop", ""},
		{node(api.SWhile, node(api.EAnd, this, null()), block()), "0 1: ., ., ., PushThis, KeepAnd 7, ., PushNull, JumpNot 10, ., Jump 1", ""},
		{node(api.SIf, node(api.EOr, this, null()), block(), block()), "0 1: ., ., ., PushThis, KeepOr 7, ., PushNull, JumpNot 10, ., Jump 11, .", ""},
		{expr(node(api.ECall, this, node(api.EOr, this, null()))), "0 2: ., ., ., PushThis, ., ., PushThis, KeepOr 10, ., PushNull, Call 1, Pop", ""},
	})
}

// P15.1: whatever stands ahead of statements that leap, and behind them.
func TestPlacesAmongOthers(t *testing.T) {
	p := right(t, load(t, "let a = 1; if (a) { a = 2; } else { a = 3; } while (a) { a = 4; } print a; while (a) {}"))
	want := "0 1: ., ., PushInt 1, SetGlobal 0, " +
		"., ., GetGlobal 0, JumpNot 14, ., ., ., PushInt 2, SetGlobal 0, Jump 19, ., ., ., PushInt 3, SetGlobal 0, " +
		"., ., GetGlobal 0, JumpNot 29, ., ., ., PushInt 4, SetGlobal 0, Jump 20, " +
		"., ., GetGlobal 0, Print, " +
		"., ., GetGlobal 0, JumpNot 39, ., Jump 34, PushNull, Ret"
	if got := toldCode(p.Codes[0]); got != want {
		t.Errorf("it comes to %s\nnot to %s", got, want)
	}
}

// P15.1: places begin anew in each function.
func TestPlacesOfFunctions(t *testing.T) {
	loop := body(node(api.SWhile, null(), block()))
	p := right(t, program(0, loop, api.Fn{Body: loop}, api.Fn{Params: 1, Locals: 2, Body: loop}))
	for f, c := range p.Codes {
		if got := toldCode(c); got != "0 1: ., ., PushNull, JumpNot 6, ., Jump 1, PushNull, Ret" {
			t.Errorf("function %d comes to %s", f, got)
		}
	}
}

// P15.1: strings have numbers in the order in which they first come, function by function.
func TestStringsOfFunctions(t *testing.T) {
	get := func(names string) []api.Node {
		var l []api.Node
		for _, s := range strings.Fields(names) {
			l = append(l, named(api.SDel, s, null()))
		}
		return l
	}
	for _, x := range []struct{ first, second, third, pool, numbers string }{
		{"a b", "c d", "e f", "a b c d e f", "0 1 2 3 4 5"},
		{"a b", "b a", "c b a", "a b c", "0 1 1 0 2 1 0"},
		{"", "", "a", "a", "0"},
		{"a", "", "a", "a", "0 0"},
		{"", "b a", "a c b", "b a c", "0 1 1 2 0"},
		{"a a", "a a", "a b a", "a b", "0 0 0 0 0 1 0"},
		{"c b a", "a b c", "b", "c b a", "0 1 2 2 1 0 1"},
	} {
		p := right(t, program(0, get(x.first), api.Fn{Body: get(x.second)}, api.Fn{Body: get(x.third)}))
		var numbers []string
		for _, c := range p.Codes {
			for _, in := range c.Ins {
				if in.Op == api.Del {
					numbers = append(numbers, string(rune('0'+in.A)))
				}
			}
		}
		if got := strings.Join(p.Pool, " "); got != x.pool || strings.Join(numbers, " ") != x.numbers {
			t.Errorf("%v: the strings are %s, by the numbers %v", x, got, numbers)
		}
	}
}

// P15.1: functions are compiled by their numbers, not where they stand in the text.
func TestOrderOfFunctions(t *testing.T) {
	p := right(t, load(t, `let f = fn() { return "in"; }; print "out"; let g = fn() { print "in"; print "last"; };`))
	if got := strings.Join(p.Pool, " "); got != "out in last" {
		t.Error("the strings are", got)
	}
	for f, want := range []string{
		"0 1: ., ., PushFun 1, SetGlobal 0, ., ., PushStr 0, Print, ., ., PushFun 2, SetGlobal 1, PushNull, Ret",
		"0 1: ., ., PushStr 1, Ret, PushNull, Ret",
		"0 1: ., ., PushStr 1, Print, ., ., PushStr 2, Print, PushNull, Ret",
	} {
		if got := toldCode(p.Codes[f]); got != want {
			t.Errorf("function %d comes to %s, not to %s", f, got, want)
		}
	}
}

// P15.1: a string and a property of the same bytes are one; the empty string is one as all others; bytes are told apart.
func TestStringsAndProperties(t *testing.T) {
	this := node(api.EThis)
	l := body(
		named(api.SSet, "x", this, quoted("x")),
		named(api.SSet, "y", this, quoted("")),
		expr(named(api.EMeth, "x", this, quoted(""), quoted("X"))),
		expr(object("y z", quoted("x "), quoted("\x00"))),
		named(api.SDel, "z", quoted("\x00\x00")),
		expr(named(api.EGet, "z", quoted("\xc3"))),
	)
	p := right(t, program(0, l))
	want := []string{"x", "", "y", "X", "x ", "\x00", "z", "\x00\x00", "\xc3"}
	if got := strings.Join(p.Pool, "|"); got != strings.Join(want, "|") || len(p.Pool) != len(want) {
		t.Errorf("the strings are %q, not %q", p.Pool, want)
	}
	code := "6 4: ., ., PushThis, ., PushStr 0, Set 0 0, " +
		"., ., PushThis, ., PushStr 1, Set 2 1, " +
		"., ., ., PushThis, Meth 0 2, ., PushStr 1, ., PushStr 3, CallM 2, Pop, " +
		"., ., NewObj, ., PushStr 4, Init 2 3, ., PushStr 5, Init 6 4, Pop, " +
		"., ., PushStr 7, Del 6, " +
		"., ., ., PushStr 8, Get 6 5, Pop, PushNull, Ret"
	if got := toldCode(p.Codes[0]); got != code {
		t.Errorf("it comes to %s\nnot to %s", got, code)
	}
}

// P15.1: sites have numbers from 0 on in each function; a string that comes again has another one.
func TestSitesOfFunctions(t *testing.T) {
	this := node(api.EThis)
	each := expr(object("x", named(api.EGet, "x", this)))
	set := named(api.SSet, "x", this, named(api.EMeth, "x", this))
	p := right(t, program(0, body(each, set), api.Fn{Body: body(named(api.SDel, "x", this), set, each)}, api.Fn{}, api.Fn{Body: body(set, set)}))
	for f, want := range []string{
		"4 3: ., ., NewObj, ., ., PushThis, Get 0 0, Init 0 1, Pop, ., ., PushThis, ., ., PushThis, Meth 0 2, CallM 0, Set 0 3, PushNull, Ret",
		"4 3: ., ., PushThis, Del 0, ., ., PushThis, ., ., PushThis, Meth 0 0, CallM 0, Set 0 1, ., ., NewObj, ., ., PushThis, Get 0 2, Init 0 3, Pop, PushNull, Ret",
		"0 1: PushNull, Ret",
		"4 3: ., ., PushThis, ., ., PushThis, Meth 0 0, CallM 0, Set 0 1, ., ., PushThis, ., ., PushThis, Meth 0 2, CallM 0, Set 0 3, PushNull, Ret",
	} {
		if got := toldCode(p.Codes[f]); got != want {
			t.Errorf("function %d comes to %s\nnot to %s", f, got, want)
		}
	}
}

// P15.1: Deep is that of the deepest instruction, wherever it stands: in what is not come to, too.
func TestDeep(t *testing.T) {
	deep := func(n int) api.Node {
		l := body(null())
		for range n - 1 {
			l = append(l, null())
		}
		return expr(node(api.ECall, l...))
	}
	for what, l := range map[string][]api.Node{
		"alone":                        {deep(5)},
		"the first one":                {deep(5), deep(4), deep(1)},
		"the last one":                 {deep(1), deep(4), deep(5)},
		"behind a Ret":                 {answer(null()), deep(5)},
		"behind some":                  {answer(null()), answer(null()), deep(5), answer(null())},
		"ahead of a Ret":               {deep(5), answer(null())},
		"in the second block":          {node(api.SIf, null(), block(deep(2)), block(deep(5)))},
		"in the first block":           {node(api.SIf, null(), block(deep(5)), block(deep(2)))},
		"in the second one, ended":     {node(api.SIf, null(), block(answer(null())), block(deep(5)))},
		"behind one that ends":         {node(api.SIf, null(), block(answer(null()), deep(5)), block())},
		"behind both that end":         {node(api.SIf, null(), block(answer(null())), block(answer(null()))), deep(5)},
		"in a loop":                    {node(api.SWhile, null(), block(deep(5)))},
		"behind a loop":                {node(api.SWhile, null(), block()), deep(5)},
		"behind a Ret in a loop":       {node(api.SWhile, null(), block(answer(null()), deep(5)))},
		"kept, then as deep":           {expr(node(api.EAnd, deep(5).Kids[0], deep(5).Kids[0]))},
		"kept on a stack":              {expr(node(api.ECall, null(), null(), null(), null(), node(api.EOr, null(), null())))},
		"kept, on a stack by and":      {expr(node(api.ECall, null(), null(), null(), node(api.EAnd, null(), null()), null()))},
		"a Meth":                       {expr(named(api.EMeth, "x", null(), null(), null(), null()))},
		"a SetIx of one deeper":        {node(api.SSetIx, null(), null(), deep(3).Kids[0])},
		"objects in others":            {expr(object("x", object("x", object("x", object("x", null())))))},
		"an answer":                    {answer(deep(5).Kids[0])},
		"what a statement takes":       {node(api.SPrint, deep(5).Kids[0])},
		"many that are less":           {deep(4), deep(5), deep(4), deep(4), deep(4)},
		"a condition":                  {node(api.SIf, deep(5).Kids[0], block(), block())},
		"a loop's condition":           {node(api.SWhile, deep(5).Kids[0], block())},
		"behind Rets in both, in both": {node(api.SIf, null(), block(answer(null())), block(answer(null()), deep(5)))},
	} {
		p := right(t, program(0, l, api.Fn{Body: body(deep(3))}))
		if p.Codes[0].Deep != 5 || p.Codes[1].Deep != 3 {
			t.Errorf("%s: %s, and %d", what, toldCode(p.Codes[0]), p.Codes[1].Deep)
		}
	}
}
