package compile_test

import (
	"slices"
	"strconv"
	"strings"
	"testing"

	"proteus/api"
)

// form is a function's only statement, and what it comes to: sites and depth, then instructions, without the PushNull and Ret at the end; and the strings.
type form struct {
	stmt       api.Node
	want, pool string
}

// hold asks it of statements, as the only one of a function that has 24 locals, beside 24 globals and 32 functions.
func hold(t *testing.T, forms []form) {
	t.Helper()
	for _, x := range forms {
		u := program(maxVars, nil, api.Fn{Params: maxParams, Locals: maxVars, Body: body(x.stmt)})
		u.Fns = append(u.Fns, make([]api.Fn, maxFns-2)...)
		p := right(t, u)
		if got := toldCode(p.Codes[1]); got != x.want+", PushNull, Ret" {
			t.Errorf("%v\ncomes to %s\nnot to   %s, PushNull, Ret", x.stmt, got, x.want)
		}
		if got := strings.Join(p.Pool, " "); got != x.pool {
			t.Errorf("%v has the strings %s, not %s", x.stmt, got, x.pool)
		}
		for i, c := range p.Codes {
			if i != 1 && toldCode(c) != "0 1: PushNull, Ret" {
				t.Errorf("beside %v, function %d comes to %s", x.stmt, i, toldCode(c))
			}
		}
	}
}

// P15.1: each expression of the table without Kids.
func TestLeaves(t *testing.T) {
	hold(t, []form{
		{expr(null()), "0 1: ., ., PushNull, Pop", ""},
		{expr(node(api.EThis)), "0 1: ., ., PushThis, Pop", ""},
		{expr(numbered(api.EBool, 0)), "0 1: ., ., PushBool 0, Pop", ""},
		{expr(numbered(api.EBool, 1)), "0 1: ., ., PushBool 1, Pop", ""},
		{expr(whole(0)), "0 1: ., ., PushInt 0, Pop", ""},
		{expr(whole(7)), "0 1: ., ., PushInt 7, Pop", ""},
		{expr(whole(most)), "0 1: ., ., PushInt 4611686018427387903, Pop", ""},
		{expr(quoted("ab")), "0 1: ., ., PushStr 0, Pop", "ab"},
		{expr(quoted("")), "0 1: ., ., PushStr 0, Pop", ""},
		{expr(quoted(strings.Repeat("\xff", maxStr))), "0 1: ., ., PushStr 0, Pop", strings.Repeat("\xff", maxStr)},
		{expr(numbered(api.EFun, 0)), "0 1: ., ., PushFun 0, Pop", ""},
		{expr(numbered(api.EFun, 1)), "0 1: ., ., PushFun 1, Pop", ""},
		{expr(numbered(api.EFun, 31)), "0 1: ., ., PushFun 31, Pop", ""},
		{expr(local(0)), "0 1: ., ., GetLocal 0, Pop", ""},
		{expr(local(5)), "0 1: ., ., GetLocal 5, Pop", ""},
		{expr(local(23)), "0 1: ., ., GetLocal 23, Pop", ""},
		{expr(global(0)), "0 1: ., ., GetGlobal 0, Pop", ""},
		{expr(global(23)), "0 1: ., ., GetGlobal 23, Pop", ""},
		{expr(object("")), "0 1: ., ., NewObj, Pop", ""},
	})
}

// P15.1: each expression of the table with Kids.
func TestExpressions(t *testing.T) {
	this := node(api.EThis)
	hold(t, []form{
		{expr(object("x", whole(1))), "1 2: ., ., NewObj, ., PushInt 1, Init 0 0, Pop", "x"},
		{expr(object("x y x", whole(1), this, null())), "3 2: ., ., NewObj, ., PushInt 1, Init 0 0, ., PushThis, Init 1 1, ., PushNull, Init 0 2, Pop", "x y"},
		{expr(object("x y", quoted("y"), quoted("x"))), "2 2: ., ., NewObj, ., PushStr 0, Init 1 0, ., PushStr 1, Init 0 1, Pop", "y x"},
		{expr(object("x y", object("z", this), object(""))), "3 3: ., ., NewObj, ., NewObj, ., PushThis, Init 0 0, Init 1 1, ., NewObj, Init 2 2, Pop", "z x y"},
		{expr(signed(api.EUn, api.Neg, this)), "0 1: ., ., ., PushThis, Un 1, Pop", ""},
		{expr(signed(api.EUn, api.Not, this)), "0 1: ., ., ., PushThis, Un 2, Pop", ""},
		{expr(node(api.EAnd, this, null())), "0 1: ., ., ., PushThis, KeepAnd 7, ., PushNull, Pop", ""},
		{expr(node(api.EOr, this, null())), "0 1: ., ., ., PushThis, KeepOr 7, ., PushNull, Pop", ""},
		{expr(named(api.EGet, "x", this)), "1 1: ., ., ., PushThis, Get 0 0, Pop", "x"},
		{expr(named(api.EGet, "x", named(api.EGet, "y", this))), "2 1: ., ., ., ., PushThis, Get 0 0, Get 1 1, Pop", "y x"},
		{expr(node(api.EIndex, this, null())), "0 2: ., ., ., PushThis, ., PushNull, GetIx, Pop", ""},
		{expr(node(api.ECall, this)), "0 1: ., ., ., PushThis, Call 0, Pop", ""},
		{expr(node(api.ECall, this, whole(1))), "0 2: ., ., ., PushThis, ., PushInt 1, Call 1, Pop", ""},
		{expr(node(api.ECall, this, whole(1), whole(2), whole(3), whole(4), whole(5), whole(6))), "0 7: ., ., ., PushThis, ., PushInt 1, ., PushInt 2, ., PushInt 3, ., PushInt 4, ., PushInt 5, ., PushInt 6, Call 6, Pop", ""},
		{expr(node(api.ECall, named(api.EGet, "x", this), null())), "1 2: ., ., ., ., PushThis, Get 0 0, ., PushNull, Call 1, Pop", "x"},
		{expr(named(api.EMeth, "x", this)), "1 2: ., ., ., PushThis, Meth 0 0, CallM 0, Pop", "x"},
		{expr(named(api.EMeth, "x", this, whole(1))), "1 3: ., ., ., PushThis, Meth 0 0, ., PushInt 1, CallM 1, Pop", "x"},
		{expr(named(api.EMeth, "x", this, whole(1), whole(2), whole(3), whole(4), whole(5), whole(6))), "1 8: ., ., ., PushThis, Meth 0 0, ., PushInt 1, ., PushInt 2, ., PushInt 3, ., PushInt 4, ., PushInt 5, ., PushInt 6, CallM 6, Pop", "x"},
		{expr(named(api.EMeth, "x", quoted("a"), quoted("b"), quoted("x"))), "1 4: ., ., ., PushStr 0, Meth 1 0, ., PushStr 2, ., PushStr 1, CallM 2, Pop", "a x b"},
		{expr(named(api.EMeth, "x", named(api.EGet, "y", this), named(api.EGet, "z", null()))), "3 3: ., ., ., ., PushThis, Get 0 0, Meth 1 1, ., ., PushNull, Get 2 2, CallM 1, Pop", "y x z"},
	})
	for op := range 11 {
		want := "0 2: ., ., ., PushThis, ., PushNull, Bin " + strconv.Itoa(op+1) + ", Pop"
		hold(t, []form{{expr(signed(api.EBin, op+1, this, null())), want, ""}})
	}
	for op, args := range []int{1, 2, 2, 1, 2, 1, 1} {
		n, want := signed(api.EBuilt, op+1, this), "0 1: ., ., ., PushThis, Built "
		if args == 2 {
			n, want = signed(api.EBuilt, op+1, this, null()), "0 2: ., ., ., PushThis, ., PushNull, Built "
		}
		hold(t, []form{{expr(n), want + strconv.Itoa(op+1) + ", Pop", ""}})
	}
}

// P15.1: each statement of the table.
func TestStatements(t *testing.T) {
	this := node(api.EThis)
	hold(t, []form{
		{numbered(api.SLocal, 0, this), "0 1: ., ., PushThis, SetLocal 0", ""},
		{numbered(api.SLocal, 23, this), "0 1: ., ., PushThis, SetLocal 23", ""},
		{numbered(api.SGlobal, 0, this), "0 1: ., ., PushThis, SetGlobal 0", ""},
		{numbered(api.SGlobal, 23, this), "0 1: ., ., PushThis, SetGlobal 23", ""},
		{named(api.SSet, "x", this, whole(1)), "1 2: ., ., PushThis, ., PushInt 1, Set 0 0", "x"},
		{named(api.SSet, "x", named(api.EGet, "x", this), quoted("y")), "2 2: ., ., ., PushThis, Get 0 0, ., PushStr 1, Set 0 1", "x y"},
		{node(api.SSetIx, this, whole(1), whole(2)), "0 3: ., ., PushThis, ., PushInt 1, ., PushInt 2, SetIx", ""},
		{named(api.SDel, "x", this), "0 1: ., ., PushThis, Del 0", "x"},
		{named(api.SDel, "x", named(api.EGet, "y", this)), "1 1: ., ., ., PushThis, Get 0 0, Del 1", "y x"},
		{node(api.SDelIx, this, null()), "0 2: ., ., PushThis, ., PushNull, DelIx", ""},
		{node(api.SPrint, this), "0 1: ., ., PushThis, Print", ""},
		{node(api.SExpr, this), "0 1: ., ., PushThis, Pop", ""},
		{node(api.SReturn, this), "0 1: ., ., PushThis, Ret", ""},
		{node(api.SIf, this, block(expr(null())), block(answer(this))), "0 1: ., ., PushThis, JumpNot 10, ., ., ., PushNull, Pop, Jump 15, ., ., ., PushThis, Ret", ""},
		{node(api.SWhile, this, block(expr(null()))), "0 1: ., ., PushThis, JumpNot 10, ., ., ., PushNull, Pop, Jump 1", ""},
	})
}

// P15.1: the bodies of functions: statements one behind the other, then PushNull and Ret, whatever comes ahead of these.
func TestBodies(t *testing.T) {
	for _, x := range []struct {
		stmts []api.Node
		want  string
	}{
		{nil, "0 1: PushNull, Ret"},
		{body(answer(null())), "0 1: ., ., PushNull, Ret, PushNull, Ret"},
		{body(answer(whole(1)), answer(whole(2))), "0 1: ., ., PushInt 1, Ret, ., ., PushInt 2, Ret, PushNull, Ret"},
		{body(expr(null()), node(api.SPrint, whole(1))), "0 1: ., ., PushNull, Pop, ., ., PushInt 1, Print, PushNull, Ret"},
		{body(named(api.SSet, "x", null(), null()), named(api.SSet, "x", null(), null())), "2 2: ., ., PushNull, ., PushNull, Set 0 0, ., ., PushNull, ., PushNull, Set 0 1, PushNull, Ret"},
	} {
		for f := range 3 {
			u := program(1, nil, api.Fn{}, api.Fn{Locals: 1})
			u.Fns[f].Body = x.stmts
			p := right(t, u)
			for i, c := range p.Codes {
				want := "0 1: PushNull, Ret"
				if i == f {
					want = x.want
				}
				if got := toldCode(c); got != want {
					t.Errorf("%v in function %d: function %d comes to %s, not to %s", x.stmts, f, i, got, want)
				}
			}
		}
	}
	if p := right(t, program(0, body(answer(whole(1))))); !slices.Equal(p.Codes[0].Ins, []api.Instr{{Op: 1, A: 1}, {Op: 1, A: 1}, {Op: 4, A: 1}, {Op: 32}, {Op: 2}, {Op: 32}}) {
		t.Error("return 1; comes to", p)
	}
}
