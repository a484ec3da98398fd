package code_test

import (
	"fmt"
	"math"
	"slices"
	"strings"
	"testing"

	"proteus/api"
	"proteus/code"
)

// held is one number of a program: how it is set, and from where to where it may be.
type held struct {
	name        string
	set         func(p *api.Program, n int)
	least, most int
}

// P14.1: Globals, Params, Locals, Sites and Deep at their least and greatest, and one beyond.
func TestNumbersOfPrograms(t *testing.T) {
	for _, h := range []held{
		{"Globals", func(p *api.Program, n int) { p.Globals = n }, 0, mostVars},
		{"Params", func(p *api.Program, n int) { p.Codes[1].Params, p.Codes[1].Locals = n, max(n, 0) }, 0, mostParams},
		{"Params with all locals", func(p *api.Program, n int) { p.Codes[1].Params, p.Codes[1].Locals = n, mostVars }, 0, mostParams},
		{"Locals", func(p *api.Program, n int) { p.Codes[1].Locals = n }, 2, mostVars},
		{"Locals of the last", func(p *api.Program, n int) { p.Codes[2].Locals = n }, 0, mostVars},
		{"Params below Locals", func(p *api.Program, n int) { p.Codes[1].Params, p.Codes[1].Locals = n, 3 }, 0, 3},
		{"Sites", func(p *api.Program, n int) { p.Codes[1].Sites = n }, 0, mostIns},
		{"Sites of the whole", func(p *api.Program, n int) { p.Codes[0].Sites = n }, 0, mostIns},
		{"Deep", func(p *api.Program, n int) { p.Codes[1].Deep = n }, 1, mostStack},
		{"Deep of the whole", func(p *api.Program, n int) { p.Codes[0].Deep = n }, 1, mostStack},
		{"Deep of a loop", func(p *api.Program, n int) { p.Codes[2].Deep = n }, 0, mostStack},
		{"Params of the whole", func(p *api.Program, n int) { p.Codes[0].Params = n }, 0, 0},
		{"Locals of the whole", func(p *api.Program, n int) { p.Codes[0].Locals = n }, 0, 0},
		{"Params and Locals of the whole", func(p *api.Program, n int) { p.Codes[0].Params, p.Codes[0].Locals = n, n }, 0, 0},
	} {
		for _, n := range []int{h.least, h.most} {
			p := three()
			h.set(&p, n)
			if e := code.Check(p); e != api.OK {
				t.Errorf("%s of %d: Check told %d", h.name, n, e)
			}
		}
		for _, n := range []int{h.least - 1, h.most + 1, math.MinInt, math.MaxInt} {
			p := three()
			h.set(&p, n)
			wrong(t, fmt.Sprint(h.name, " of ", n), p)
		}
	}
}

// three is a program of three codes: the whole, a function of two parameters, and a loop that needs no stack.
func three() api.Program {
	null := []api.Instr{ins(api.PushNull), ins(api.Ret)}
	return api.Program{Codes: []api.Code{
		{Deep: 1, Ins: null},
		{Params: 2, Locals: 2, Deep: 1, Ins: slices.Clone(null)},
		{Ins: []api.Instr{ins(api.Tick, 1), ins(api.Jump, 0)}},
	}}
}

// many are n codes that may be.
func many(n int) []api.Code {
	var list []api.Code
	for range n {
		list = append(list, api.Code{Deep: 1, Ins: []api.Instr{ins(api.PushNull), ins(api.Ret)}})
	}
	return list
}

// P14.1: from 1 to MaxFns codes.
func TestNumberOfCodes(t *testing.T) {
	for _, n := range []int{1, 2, mostFns} {
		right(t, fmt.Sprint(n, " codes"), api.Program{Codes: many(n)}, n-1, 0, 1)
	}
	for _, n := range []int{0, mostFns + 1, 1000} {
		wrong(t, fmt.Sprint(n, " codes"), api.Program{Codes: many(n)})
	}
	wrong(t, "an empty list of codes", api.Program{Codes: []api.Code{}})
}

// P14.1: at most MaxPool strings, each of at most MaxStr bytes, whatever bytes those are.
func TestStrings(t *testing.T) {
	for _, n := range []int{0, 1, mostPool} {
		right(t, fmt.Sprint(n, " strings"), api.Program{Pool: make([]string, n), Codes: many(1)}, 0, 0, 1)
	}
	for _, n := range []int{mostPool + 1, 1000} {
		wrong(t, fmt.Sprint(n, " strings"), api.Program{Pool: make([]string, n), Codes: many(1)})
	}
	for at := range 3 {
		for _, b := range []string{"a", "\x00", "\xff", "\n"} {
			pool := []string{"a", "a", "b"}
			pool[at] = strings.Repeat(b, mostStr)
			right(t, fmt.Sprint("a long string at ", at), api.Program{Pool: pool, Codes: many(1)}, 0, 0, 1)
			pool[at] += b
			wrong(t, fmt.Sprint("too long a string at ", at), api.Program{Pool: pool, Codes: many(1)})
		}
		pool := make([]string, 3)
		pool[at] = strings.Repeat("é", mostStr/2)
		right(t, "bytes, not runes", api.Program{Pool: pool, Codes: many(1)}, 0, 0, 1)
		pool[at] += "é"
		wrong(t, "bytes, not runes", api.Program{Pool: pool, Codes: many(1)})
	}
}

// P14.1: from 1 to MaxIns instructions.
func TestNumberOfInstructions(t *testing.T) {
	ticks := func(n int) []api.Instr {
		list := make([]api.Instr, n)
		for at := range list {
			list[at] = ins(api.Tick, 1)
		}
		if n > 0 {
			list[n-1] = ins(api.Jump, 0)
		}
		return list
	}
	for _, n := range []int{2, mostIns} {
		right(t, fmt.Sprint(n, " instructions"), lone(0, ticks(n)...), 0, make([]int, n)...)
	}
	for _, n := range []int{0, mostIns + 1, 2 * mostIns} {
		wrong(t, fmt.Sprint(n, " instructions"), lone(0, ticks(n)...))
	}
	wrong(t, "an empty list of instructions", api.Program{Codes: []api.Code{{Ins: []api.Instr{}}}})
	second := three()
	second.Codes[1].Ins = nil
	wrong(t, "no instructions in the second code", second)
}

// P14.1: no single instruction is a code that may be: each goes on, goes to itself, or takes what is not there.
func TestSingleInstructions(t *testing.T) {
	for _, r := range table() {
		for a := range 2 {
			p := wide(ins(r.op, a))
			p.Codes[0], p.Codes[1] = p.Codes[1], p.Codes[0]
			p.Codes[0].Params, p.Codes[0].Locals = 0, 0
			wrong(t, r.name, p)
			wrong(t, r.name, wide(ins(r.op, a)))
		}
	}
}

// P14.1: A of numbers that are counted, where there are none of them.
func TestNothingToName(t *testing.T) {
	bare := api.Program{Codes: many(2)}
	for _, r := range table() {
		if !slices.Contains([]string{"pool", "local", "global"}, r.a) && !r.site {
			continue
		}
		list, _ := around(ins(r.op, 0))
		bare.Codes[1] = api.Code{Deep: 9, Ins: list}
		wrong(t, r.name, bare)
		full := wide(list...)
		if e := code.Check(full); e != api.OK {
			t.Errorf("%s: Check told %d", r.name, e)
		}
		if r.site {
			full.Codes[1].Sites = 0
			wrong(t, r.name+" without sites", full)
		}
		if r.a == "pool" {
			full = wide(list...)
			full.Pool = nil
			wrong(t, r.name+" without strings", full)
		}
	}
}

// P14.1: locals and sites are those of the code itself; PushFun may name each code, its own as well.
func TestOwnNumbers(t *testing.T) {
	p := wide(ins(api.GetLocal, 3), ins(api.Ret))
	p.Codes = append(p.Codes, api.Code{Locals: 3, Sites: 1, Deep: 1, Ins: []api.Instr{ins(api.GetLocal, 2), ins(api.Get, 0, 0), ins(api.Ret)}})
	right(t, "locals of its own", p, 2, 0, 1, 1)
	p.Codes[2].Ins[0].A = 3
	wrong(t, "a local of another", p)
	p.Codes[2].Ins[0].A = 2
	p.Codes[2].Ins[1].B = 1
	wrong(t, "a site of another", p)
	p.Codes[2].Ins[1].B = 0
	for f := range 3 {
		p.Codes[1].Ins[0] = ins(api.PushFun, f)
		right(t, fmt.Sprint("code ", f), p, 1, 0, 1)
	}
	p.Codes[1].Ins[0].A = 3
	wrong(t, "code 3", p)
}

// stairs lays n values, takes them again, and ends.
func stairs(n int) []api.Instr {
	var list []api.Instr
	for range n {
		list = append(list, ins(api.PushNull))
	}
	for range n - 1 {
		list = append(list, ins(api.Pop))
	}
	return append(list, ins(api.Ret))
}

// P14.1: a depth that is just Deep, and one above it.
func TestDeep(t *testing.T) {
	for _, n := range []int{1, 2, 7, mostStack} {
		list := stairs(n)
		depths := make([]int, len(list))
		for at := range depths {
			depths[at] = min(at, 2*n-at)
		}
		right(t, fmt.Sprint(n, " deep"), lone(n, list...), 0, depths...)
		wrong(t, fmt.Sprint(n, " deep, one too many"), lone(n-1, list...))
	}
	wrong(t, "deeper than all may be", lone(mostStack, stairs(mostStack+1)...))
	wrong(t, "deeper than all may be", lone(mostStack+1, stairs(mostStack+1)...))
}

// P14.1: too deep only where one instruction lays more than it takes, with the next one taking it again at once.
func TestDeepBehindOne(t *testing.T) {
	p := wide(ins(api.PushNull), ins(api.Meth, 0, 0), ins(api.CallM, 0), ins(api.Ret))
	p.Codes[1].Deep = 2
	right(t, "Meth", p, 1, 0, 1, 2, 1)
	p.Codes[1].Deep = 1
	wrong(t, "Meth", p)
	// What an instruction takes is off the stack ahead of what it lays.
	p = wide(ins(api.PushNull), ins(api.Un, 1), ins(api.PushNull), ins(api.Bin, 1), ins(api.Ret))
	p.Codes[1].Deep = 2
	right(t, "Un and Bin", p, 1, 0, 1, 1, 2, 1)
}

// P14.1: too deep, too few, and beyond the end, on one of two ways alone.
func TestOneOfTwoWays(t *testing.T) {
	fork := func(next, other []api.Instr) api.Program {
		list := []api.Instr{ins(api.PushBool, 1), ins(api.JumpNot, 2+len(next))}
		return lone(2, append(append(list, next...), other...)...)
	}
	good := []api.Instr{ins(api.PushNull), ins(api.PushNull), ins(api.Pop), ins(api.Ret)}
	deep := []api.Instr{ins(api.PushNull), ins(api.PushNull), ins(api.PushNull), ins(api.Ret)}
	few := []api.Instr{ins(api.PushNull), ins(api.Pop), ins(api.Pop), ins(api.Ret)}
	right(t, "both good", fork(good, good), 0, 0, 1, 0, 1, 2, 1, 0, 1, 2, 1)
	for what, bad := range map[string][]api.Instr{"too deep": deep, "too few": few} {
		wrong(t, what+" on the next one's way", fork(bad, good))
		wrong(t, what+" on A's way", fork(good, bad))
	}
	wrong(t, "beyond the end on A's way", fork(good, good[:1]))
	wrong(t, "beyond the end on A's way, by a JumpNot", fork(good, []api.Instr{ins(api.PushNull), ins(api.JumpNot, 7)}))
}

// P14.1: two ways that come to one instruction must do so with one depth, ahead and back.
func TestTwoWaysMeet(t *testing.T) {
	either := func(a, b []api.Instr) api.Program {
		list := []api.Instr{ins(api.PushBool), ins(api.JumpNot, 3+len(a))}
		list = append(list, a...)
		list = append(list, ins(api.Jump, 3+len(a)+len(b)))
		list = append(list, b...)
		return lone(3, append(list, ins(api.Ret))...)
	}
	one := []api.Instr{ins(api.PushNull)}
	two := []api.Instr{ins(api.PushNull), ins(api.PushNull)}
	right(t, "one and one", either(one, one), 0, 0, 1, 0, 1, 0, 1)
	right(t, "two and two", either(two, two), 0, 0, 1, 0, 1, 2, 0, 1, 2)
	right(t, "one, and two less one", either(one, append(slices.Clone(two), ins(api.Pop))), 0, 0, 1, 0, 1, 0, 1, 2, 1)
	wrong(t, "one and two", either(one, two))
	wrong(t, "two and one", either(two, one))

	back := func(body ...api.Instr) api.Program {
		list := append([]api.Instr{ins(api.PushNull), ins(api.Tick, 1)}, body...)
		return lone(3, append(list, ins(api.Jump, 1))...)
	}
	right(t, "a loop", back(ins(api.PushNull), ins(api.Pop)), 0, 0, 1, 1, 2, 1)
	wrong(t, "a loop that grows", back(ins(api.PushNull)))
	wrong(t, "a loop that shrinks", back(ins(api.Pop)))
}

// P14.1: KeepAnd and KeepOr have their value still where they go to A, and have it not at the next one.
func TestKeep(t *testing.T) {
	for _, op := range []int{api.KeepAnd, api.KeepOr} {
		p := lone(2, ins(api.PushThis), ins(api.PushBool), ins(api.KeepAnd, 4), ins(api.PushNull), ins(api.Bin, 1), ins(api.Ret))
		p.Codes[0].Ins[2].Op = op
		right(t, "ahead", p, 0, 0, 1, 2, 1, 2, 1)
		p.Codes[0].Ins[2].A = 3
		wrong(t, "to the next one, with two depths", p)
		p.Codes[0].Ins[2].A = 5
		wrong(t, "to the one behind, with two depths", p)

		loop := lone(1, ins(api.PushNull), ins(api.Tick, 1), ins(op, 1), ins(api.PushNull), ins(api.Ret))
		right(t, "back", loop, 0, 0, 1, 1, 0, 1)
		lost := lone(1, ins(api.Tick, 1), ins(api.PushNull), ins(op, 0), ins(api.PushNull), ins(api.Ret))
		wrong(t, "back with one more", lost)
		wrong(t, "of nothing", lone(2, ins(op, 1), ins(api.PushNull), ins(api.Ret)))
		wrong(t, "as the last one", lone(2, ins(api.PushNull), ins(api.Tick, 1), ins(op, 1)))

		deep := lone(1, ins(api.PushNull), ins(op, 3), ins(api.PushNull), ins(api.Ret))
		right(t, "just Deep", deep, 0, 0, 1, 0, 1)
	}
}

// P14.1: JumpNot to the next one has one depth there, whichever way.
func TestJumpToTheNext(t *testing.T) {
	right(t, "JumpNot", lone(1, ins(api.PushNull), ins(api.JumpNot, 2), ins(api.PushNull), ins(api.Ret)), 0, 0, 1, 0, 1)
	right(t, "Jump", lone(1, ins(api.PushNull), ins(api.Jump, 2), ins(api.Ret)), 0, 0, 1, 1)
}

// P14.1, P14.3: where jumps may go: ahead to any instruction, back (and to themselves) to a Tick alone.
func TestJumps(t *testing.T) {
	// There is a value at 4 alone, for those that take one, and none behind it.
	calm := func(at int, jump api.Instr) api.Program {
		list := []api.Instr{ins(api.Tick, 1), ins(api.Jump, 2), ins(api.Tick, 3), ins(api.PushNull), ins(api.Pop), ins(api.Jump, 6), ins(api.Tick, 9), ins(api.PushNull), ins(api.Ret)}
		list[at] = jump
		return lone(1, list...)
	}
	for _, c := range []struct {
		at, to int
		ok     bool
	}{
		{5, 0, true}, {5, 1, false}, {5, 2, true}, {5, 3, false}, {5, 4, false}, {5, 5, false}, {5, 6, true}, {5, 7, true}, {5, 8, false}, {5, 9, false}, {5, -1, false},
		{1, 0, true}, {1, 1, false}, {1, 2, true}, {1, 3, true}, {1, 5, true}, {1, 6, true}, {1, 7, true}, {1, 9, false}, {1, -1, false},
		{5, math.MinInt, false}, {5, math.MaxInt, false},
		{0, 0, false}, {0, 1, true}, {0, 2, true},
	} {
		p := calm(c.at, ins(api.Jump, c.to))
		if e := code.Check(p); (e == api.OK) != c.ok || e != api.OK && e != api.ErrForm {
			t.Errorf("a Jump from %d to %d: %d", c.at, c.to, e)
		}
	}
	for _, op := range []int{api.JumpNot, api.KeepAnd, api.KeepOr} {
		for to, ok := range map[int]bool{0: op == api.JumpNot, 2: op == api.JumpNot, 1: false, 3: false, 4: false, 9: false, -1: false, math.MinInt: false, math.MaxInt: false} {
			if e := code.Check(calm(4, ins(op, to))); (e == api.OK) != ok {
				t.Errorf("operation %d to %d: %d", op, to, e)
			}
		}
	}
}

// P14.1: a jump to the last instruction, which is a Ret, or a Jump that is come to by it alone.
func TestJumpToTheLast(t *testing.T) {
	right(t, "a Ret", lone(1, ins(api.PushNull), ins(api.Jump, 3), ins(api.Pop), ins(api.Ret)), 0, 0, 1, -1, 1)
	right(t, "a Jump", lone(1, ins(api.Tick, 1), ins(api.Jump, 3), ins(api.Ret), ins(api.Jump, 0)), 0, 0, 0, -1, 0)
	wrong(t, "a Tick", lone(1, ins(api.Jump, 1), ins(api.Tick, 1)))
	wrong(t, "a JumpNot", lone(1, ins(api.Tick, 1), ins(api.PushNull), ins(api.JumpNot, 0)))
}

// P14.1: what is the last instruction of all.
func TestLast(t *testing.T) {
	ret := lone(1, ins(api.PushNull), ins(api.Ret))
	right(t, "a Ret", ret, 0, 0, 1)
	right(t, "a Jump", lone(1, ins(api.Tick, 1), ins(api.Jump, 0)), 0, 0, 0)
	for _, r := range table() {
		if r.name == "Ret" || r.name == "Jump" {
			continue
		}
		list, _ := around(ins(r.op, 1))
		at := slices.IndexFunc(list, func(in api.Instr) bool { return in.Op == r.op })
		last := append([]api.Instr{ins(api.Tick, 1)}, list[:at+1]...)
		last[len(last)-1].A = ends(r)[0] // For those that go to A: the Tick at 0.
		if r.a == "place" {
			last = []api.Instr{ins(api.PushNull), ins(api.Tick, 1), ins(r.op, 1)}
		}
		wrong(t, "the last one: "+r.name, wide(last...))
		dead := append([]api.Instr{ins(api.PushNull), ins(api.Ret)}, ins(r.op, ends(r)[0]))
		if r.a == "place" {
			dead = []api.Instr{ins(api.Tick, 1), ins(api.PushNull), ins(api.Ret), ins(r.op, 0)}
		}
		if e := code.Check(wide(dead...)); e != api.OK {
			t.Errorf("the last one, not come to: %s: %d", r.name, e)
		}
	}
}

// P14.1: the depths of a code that there is not.
func TestDepthsOfNoCode(t *testing.T) {
	p := three()
	right(t, "the loop", p, 2, 0, 0)
	for _, f := range []int{-1, 3, 4, math.MinInt, math.MaxInt} {
		if got := code.Depths(p, f); len(got) != 0 {
			t.Errorf("code %d: %v", f, got)
		}
	}
	if got := code.Depths(api.Program{}, 0); len(got) != 0 {
		t.Errorf("no codes: %v", got)
	}
}

// P14.1: a program is refused for one code that is not right, wherever it is, and so are the depths of all others.
func TestOneWrongCode(t *testing.T) {
	for f := range 3 {
		p := three()
		p.Codes[f].Ins = []api.Instr{ins(api.Pop), ins(api.Ret)}
		wrong(t, fmt.Sprint("the depths of code ", f), p)
		p = three()
		p.Codes[f].Ins = []api.Instr{ins(api.PushNull, 1), ins(api.Ret)}
		wrong(t, fmt.Sprint("an instruction of code ", f), p)
		p = three()
		p.Codes[f].Sites = -1
		wrong(t, fmt.Sprint("sites of code ", f), p)
	}
}

// P14.1: the document's example, and the loop of a while.
func TestExamples(t *testing.T) {
	right(t, "PushNull, Ret", lone(1, ins(api.PushNull), ins(api.Ret)), 0, 0, 1)
	while := wide(
		ins(api.Tick, 2), ins(api.GetLocal, 0), ins(api.PushInt, 9), ins(api.Bin, api.Lt), ins(api.JumpNot, 12),
		ins(api.Tick, 3), ins(api.GetLocal, 0), ins(api.PushInt, 1), ins(api.Bin, api.Add), ins(api.SetLocal, 0), ins(api.Tick, 1), ins(api.Jump, 0),
		ins(api.NewObj), ins(api.PushStr, 1), ins(api.Init, 0, 1), ins(api.KeepOr, 19), ins(api.GetGlobal, 4), ins(api.PushThis), ins(api.GetIx), ins(api.Ret),
	)
	right(t, "a while", while, 1, 0, 0, 1, 2, 1, 0, 0, 1, 2, 1, 0, 0, 0, 1, 2, 1, 0, 1, 2, 1)
}
