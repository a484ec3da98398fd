package asm_test

import (
	"math"
	"reflect"
	"strings"
	"testing"

	"proteus/api"
	"proteus/asm"
	"proteus/code"
)

// ins is an instruction with such an A and B.
func ins(op int, ab ...int) api.Instr {
	ab = append(ab, 0, 0)
	return api.Instr{Op: op, A: ab[0], B: ab[1]}
}

// lone is a program of one code of these instructions.
func lone(deep int, list ...api.Instr) api.Program {
	return api.Program{Codes: []api.Code{{Deep: deep, Ins: list}}}
}

// text puts lines together.
func text(lines ...string) string {
	return strings.Join(lines, "\n") + "\n"
}

// empty asks whether a program is the zero one.
func empty(p api.Program) bool { return reflect.DeepEqual(p, api.Program{}) }

// prints fails the test unless Print of p is that text.
func prints(t *testing.T, what string, p api.Program, want string) {
	t.Helper()
	if got, e := asm.Print(p); got != want || e != api.OK {
		t.Errorf("%s: Print told %d, and\n%s\nnot\n%s", what, e, got, want)
	}
}

// reads fails the test unless Read of that text is p.
func reads(t *testing.T, what, s string, p api.Program) {
	t.Helper()
	got, at, e := asm.Read(s)
	if e != api.OK || at != 0 || !code.Same(got, p) {
		t.Errorf("%s: Read told %v, %d, %d, not %v", what, got, at, e, p)
	}
}

// both fails the test unless p and that text are one another's.
func both(t *testing.T, what string, p api.Program, s string) {
	t.Helper()
	prints(t, what, p, s)
	reads(t, what, s, p)
}

// refused fails the test unless Read tells that error, and that place.
func refused(t *testing.T, what, s string, at int, want api.Errno) {
	t.Helper()
	p, place, e := asm.Read(s)
	if e != want || place != at || !empty(p) {
		t.Errorf("%s: Read told %v, %d, %d, not %d, %d", what, p, place, e, at, want)
	}
}

// P16.1: each instruction's name, by the document's row of them.
func TestName(t *testing.T) {
	names := strings.Fields("tick null bool int str this fun local setlocal global setglobal new init get set getix setix del delix un bin jump jumpnot and or call meth callm built print pop ret")
	if len(names) != 32 {
		t.Fatal("the test's own names are", len(names))
	}
	for i, want := range names {
		if got := asm.Name(i + 1); got != want {
			t.Errorf("Name(%d) is %q, not %q", i+1, got, want)
		}
	}
	if asm.Name(api.Tick) != "tick" || asm.Name(api.Ret) != "ret" || asm.Name(api.KeepAnd) != "and" || asm.Name(api.NewObj) != "new" {
		t.Error("the names of Tick, Ret, KeepAnd, NewObj")
	}
}

// P16.1: what is no instruction has no name.
func TestNoName(t *testing.T) {
	for _, op := range []int{0, -1, -2, -32, 33, 34, 64, 1000, 1 << 32, 1<<32 + 1, math.MinInt, math.MinInt + 1, math.MaxInt} {
		if got := asm.Name(op); got != "" {
			t.Errorf("Name(%d) is %q", op, got)
		}
	}
}

// P16.1, P16.2: the chapter's example.
func TestExample(t *testing.T) {
	both(t, "the example", lone(1, ins(api.PushNull), ins(api.Ret)), "globals 0\ncode 0 0 0 1\nnull\nret\n")
}

// everything has each of the instructions, with unlike numbers.
func everything() (api.Program, string) {
	p := api.Program{
		Globals: 3,
		Pool:    []string{"x", "", "y z"},
		Codes: []api.Code{
			{Deep: 2, Sites: 4, Ins: []api.Instr{
				ins(api.Tick, 7), ins(api.PushBool, 1), ins(api.JumpNot, 5), ins(api.PushInt, -12), ins(api.SetGlobal, 2),
				ins(api.Tick, 1000), ins(api.NewObj), ins(api.PushStr, 2), ins(api.Init, 1, 3), ins(api.Get, 2, 1), ins(api.Un, 2), ins(api.Print),
				ins(api.GetGlobal, 1), ins(api.KeepAnd, 15), ins(api.PushNull), ins(api.Pop), ins(api.PushFun, 1), ins(api.Call, 0), ins(api.Del, 1), ins(api.Jump, 20),
				ins(api.PushNull), ins(api.Ret),
			}},
			{Params: 2, Locals: 5, Sites: 2, Deep: 3, Ins: []api.Instr{
				ins(api.PushThis), ins(api.Meth, 2, 0), ins(api.GetLocal, 4), ins(api.CallM, 1), ins(api.KeepOr, 6), ins(api.PushBool, 0), ins(api.SetLocal, 3),
				ins(api.PushNull), ins(api.PushNull), ins(api.PushNull), ins(api.SetIx), ins(api.PushNull), ins(api.PushNull), ins(api.DelIx),
				ins(api.PushNull), ins(api.PushNull), ins(api.Set, 0, 1), ins(api.PushNull), ins(api.PushNull), ins(api.GetIx), ins(api.PushNull), ins(api.Bin, 11),
				ins(api.Built, 7), ins(api.Ret),
			}},
		},
	}
	s := text(
		"globals 3", `pool "x"`, `pool ""`, `pool "y z"`,
		"code 0 0 4 2", "tick 7", "bool 1", "jumpnot 5", "int -12", "setglobal 2",
		"tick 1000", "new", "str 2", "init 1 3", "get 2 1", "un 2", "print",
		"global 1", "and 15", "null", "pop", "fun 1", "call 0", "del 1", "jump 20",
		"null", "ret",
		"code 2 5 2 3",
		"this", "meth 2 0", "local 4", "callm 1", "or 6", "bool 0", "setlocal 3",
		"null", "null", "null", "setix", "null", "null", "delix",
		"null", "null", "set 0 1", "null", "null", "getix", "null", "bin 11",
		"built 7", "ret",
	)
	return p, s
}

// P16.1, P16.2: a program with each instruction.
func TestEverything(t *testing.T) {
	p, s := everything()
	if code.Check(p) != api.OK {
		t.Fatal("the test's own program is not right")
	}
	for _, r := range table() {
		if !strings.Contains(s, "\n"+r.name+"\n") && !strings.Contains(s, "\n"+r.name+" ") {
			t.Errorf("the test's own program has no %s", r.name)
		}
	}
	both(t, "everything", p, s)
}

// wide is a program whose second code does one instruction, with all that it takes; line is where that stands.
func wide(in api.Instr) (p api.Program, line int) {
	pops, pushes := code.Effect(in)
	c := api.Code{Params: mostParams, Locals: mostVars, Sites: mostIns, Deep: mostStack}
	for range pops {
		c.Ins = append(c.Ins, ins(api.PushThis))
	}
	c.Ins = append(c.Ins, in)
	for range pushes {
		c.Ins = append(c.Ins, ins(api.Pop))
	}
	if in.Op != api.Ret {
		c.Ins = append(c.Ins, ins(api.PushNull), ins(api.Ret))
	}
	p = api.Program{Globals: mostVars, Pool: make([]string, mostPool), Codes: make([]api.Code, mostFns)}
	for f := range p.Codes {
		p.Codes[f] = api.Code{Deep: 1, Ins: []api.Instr{ins(api.PushNull), ins(api.Ret)}}
	}
	p.Codes[1] = c
	return p, 1 + mostPool + 3 + 1 + pops + 1
}

// P16.1, P16.2: each instruction's line, with A and B at what they may be at least and at most.
func TestEachInstruction(t *testing.T) {
	spans := map[int][]int{
		api.Tick: {1, 10, 999, 1000}, api.PushBool: {0, 1}, api.PushInt: {leastInt, leastInt + 1, -10, -1, 0, 1, 10, mostInt - 1, mostInt},
		api.PushStr: {0, 1, 119}, api.PushFun: {0, 1, 31}, api.GetLocal: {0, 1, 23}, api.SetLocal: {0, 1, 23}, api.GetGlobal: {0, 1, 23}, api.SetGlobal: {0, 1, 23},
		api.Init: {0, 1, 119}, api.Get: {0, 1, 119}, api.Set: {0, 1, 119}, api.Meth: {0, 1, 119}, api.Del: {0, 1, 119},
		api.Un: {1, 2}, api.Bin: {1, 11}, api.Call: {0, 6}, api.CallM: {0, 6}, api.Built: {1, 7}, api.Jump: {1}, api.JumpNot: {2},
	}
	for _, r := range table() {
		if r.op == api.KeepAnd || r.op == api.KeepOr {
			continue // these are not alone: everything has them
		}
		as, bs := spans[r.op], []int{0}
		if r.numbers == 0 {
			as = []int{0}
		}
		if r.numbers == 2 {
			bs = []int{0, 1, mostIns - 1}
		}
		for _, a := range as {
			for _, b := range bs {
				in := ins(r.op, a, b)
				p, line := wide(in)
				if code.Check(p) != api.OK {
					t.Fatal("the test's own program is not right:", in)
				}
				s := modelPrint(p)
				both(t, r.name, p, s)
				want := []string{r.name, digitsOf(a), digitsOf(b)}[:1+r.numbers]
				if got := strings.Split(s, "\n")[line-1]; got != strings.Join(want, " ") {
					t.Errorf("%v is %q", in, got)
				}
			}
		}
	}
}

// digitsOf writes a number by its digits, one by one.
func digitsOf(n int) string {
	switch {
	case n < -9:
		return digitsOf(n/10) + digitsOf(-(n % 10))
	case n < 0:
		return "-" + digitsOf(-n)
	case n > 9:
		return digitsOf(n/10) + digitsOf(n%10)
	}
	return string("0123456789"[n])
}

// P16.1, P16.2: a code's numbers, each at its least and its greatest.
func TestCodeLine(t *testing.T) {
	for _, c := range []struct {
		line                        string
		params, locals, sites, deep int
	}{
		{"code 0 0 0 1", 0, 0, 0, 1}, {"code 0 1 0 1", 0, 1, 0, 1}, {"code 1 1 0 1", 1, 1, 0, 1}, {"code 0 0 1 1", 0, 0, 1, 1}, {"code 0 0 0 2", 0, 0, 0, 2},
		{"code 1 2 3 4", 1, 2, 3, 4}, {"code 6 24 4000 64", 6, 24, 4000, 64}, {"code 0 24 0 64", 0, 24, 0, 64}, {"code 6 6 4000 1", 6, 6, 4000, 1},
	} {
		p := lone(1, ins(api.PushNull), ins(api.Ret))
		p.Codes = append(p.Codes, api.Code{Params: c.params, Locals: c.locals, Sites: c.sites, Deep: c.deep, Ins: p.Codes[0].Ins})
		both(t, c.line, p, text("globals 0", "code 0 0 0 1", "null", "ret", c.line, "null", "ret"))
	}
}

// P16.1, P16.2: the numbers of globals that there may be.
func TestGlobalsLine(t *testing.T) {
	for n := range mostVars + 1 {
		p := lone(1, ins(api.PushNull), ins(api.Ret))
		p.Globals = n
		both(t, "globals", p, text("globals "+digitsOf(n), "code 0 0 0 1", "null", "ret"))
	}
}

// P16.1, P16.2: strings of all kinds of bytes.
func TestPoolLine(t *testing.T) {
	for _, c := range []struct{ s, line string }{
		{"", `pool ""`},
		{"a", `pool "a"`},
		{" ", `pool " "`},
		{"  a  b ", `pool "  a  b "`},
		{`"`, `pool "\""`},
		{`\`, `pool "\\"`},
		{`\"\`, `pool "\\\"\\"`},
		{`" `, `pool "\" "`},
		{"\n", `pool "\x0a"`},
		{"a\nb\n", `pool "a\x0ab\x0a"`},
		{"\r\n\t", `pool "\x0d\x0a\x09"`},
		{"\x00", `pool "\x00"`},
		{"\xff", `pool "\xff"`},
		{"\x00\xff\x7f\x80\x1f", `pool "\x00\xff\x7f\x80\x1f"`},
		{"\u00e9\u20ac", `pool "\xc3\xa9\xe2\x82\xac"`},
		{`\x41`, `pool "\\x41"`},
		{"pool", `pool "pool"`},
		{"code 0 0 0 1", `pool "code 0 0 0 1"`},
		{"~!#[]^", `pool "~!#[]^"`},
		{strings.Repeat("x", mostStr), `pool "` + strings.Repeat("x", mostStr) + `"`},
		{strings.Repeat("\n", mostStr), `pool "` + strings.Repeat(`\x0a`, mostStr) + `"`},
	} {
		p := lone(1, ins(api.PushNull), ins(api.Ret))
		p.Pool = []string{c.s}
		both(t, c.line, p, text("globals 0", c.line, "code 0 0 0 1", "null", "ret"))
		p.Pool = []string{"a", c.s, c.s, "b"}
		both(t, c.line+" twice", p, text("globals 0", `pool "a"`, c.line, c.line, `pool "b"`, "code 0 0 0 1", "null", "ret"))
	}
}

// P16.1, P16.2: each byte in a string.
func TestEachByte(t *testing.T) {
	for b := range 256 {
		p := lone(1, ins(api.PushNull), ins(api.Ret))
		p.Pool = []string{string([]byte{byte(b)}), string([]byte{'a', byte(b), 'b'})}
		both(t, "a byte", p, modelPrint(p))
	}
}

// P16.1: programs that code.Check refuses have its error, and no text.
func TestPrintWrong(t *testing.T) {
	end := []api.Instr{ins(api.PushNull), ins(api.Ret)}
	right, _ := everything()
	spoilt := map[string]func(p *api.Program){
		"no codes":                      func(p *api.Program) { p.Codes = nil },
		"globals below 0":               func(p *api.Program) { p.Globals = -1 },
		"too many globals":              func(p *api.Program) { p.Globals = mostVars + 1 },
		"too many strings":              func(p *api.Program) { p.Pool = make([]string, mostPool+1) },
		"too long a string":             func(p *api.Program) { p.Pool = append(p.Pool, strings.Repeat("x", mostStr+1)) },
		"too many codes":                func(p *api.Program) { p.Codes = append(p.Codes, make([]api.Code, mostFns)...) },
		"an empty code":                 func(p *api.Program) { p.Codes = append(p.Codes, api.Code{}) },
		"parameters of the whole":       func(p *api.Program) { p.Codes[0].Params, p.Codes[0].Locals = 1, 1 },
		"no room":                       func(p *api.Program) { p.Codes[0].Deep = 1 },
		"a Deep above all":              func(p *api.Program) { p.Codes[0].Deep = mostStack + 1 },
		"too many instructions":         func(p *api.Program) { p.Codes[1].Ins = append(p.Codes[1].Ins, make([]api.Instr, mostIns)...) },
		"what is no instruction":        func(p *api.Program) { p.Codes[1].Ins = append(p.Codes[1].Ins, ins(33)) },
		"the instruction 0":             func(p *api.Program) { p.Codes[1].Ins = append(p.Codes[1].Ins, ins(0)) },
		"far from instructions":         func(p *api.Program) { p.Codes[1].Ins = append(p.Codes[1].Ins, ins(math.MinInt), ins(math.MaxInt)) },
		"A where nothing is said":       func(p *api.Program) { p.Codes[1].Ins = append(p.Codes[1].Ins, ins(api.Ret, 1)) },
		"B where nothing is said":       func(p *api.Program) { p.Codes[1].Ins = append(p.Codes[1].Ins, ins(api.Jump, 9999, 1)) },
		"a site that there is not":      func(p *api.Program) { p.Codes[1].Ins[1].B = 2 },
		"a number that is too great":    func(p *api.Program) { p.Codes[0].Ins[3].A = mostInt + 1 },
		"a number that is too small":    func(p *api.Program) { p.Codes[0].Ins[3].A = leastInt - 1 },
		"a value of an empty stack":     func(p *api.Program) { p.Codes[1].Ins = []api.Instr{ins(api.Pop), end[0], end[1]} },
		"a jump back to no Tick":        func(p *api.Program) { p.Codes[0].Ins[19].A = 6 },
		"the end without a Ret":         func(p *api.Program) { p.Codes[1].Ins = end[:1] },
		"a string that there is not":    func(p *api.Program) { p.Pool = p.Pool[:2] },
		"a function that there is not":  func(p *api.Program) { p.Codes = p.Codes[:1] },
		"a wrong code behind a right 1": func(p *api.Program) { p.Codes = append(p.Codes, api.Code{Deep: -1, Ins: end}) },
	}
	prints(t, "the right one", right, modelPrint(right))
	for what, spoil := range spoilt {
		p, _ := everything()
		spoil(&p)
		if want := code.Check(p); want != api.ErrForm {
			t.Fatalf("%s: code.Check tells %d", what, want)
		}
		if got, e := asm.Print(p); got != "" || e != api.ErrForm {
			t.Errorf("%s: Print told %d, and %q", what, e, got)
		}
	}
	if got, e := asm.Print(api.Program{}); got != "" || e != api.ErrForm {
		t.Errorf("the empty program: Print told %d, and %q", e, got)
	}
}

// P16.1: no list and an empty one are one; and what is handed in is left as it is, its spare room included.
func TestPrintLeaves(t *testing.T) {
	p, want := everything()
	p.Pool = append(make([]string, 0, 9), p.Pool...)
	spare := p.Pool[:9]
	for range 3 {
		prints(t, "everything", p, want)
	}
	again, _ := everything()
	if !code.Same(p, again) || spare[3] != "" || spare[8] != "" {
		t.Error("Print changed its program")
	}
	small := lone(1, ins(api.PushNull), ins(api.Ret))
	none, _ := asm.Print(small)
	small.Pool = []string{}
	prints(t, "no strings", small, none)
}
