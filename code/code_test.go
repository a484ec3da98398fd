package code_test

import (
	"fmt"
	"math"
	"slices"
	"strings"
	"testing"

	"proteus/api"
	"proteus/code"
)

// ins is an instruction without a site.
func ins(op int, a ...int) api.Instr {
	in := api.Instr{Op: op}
	if len(a) > 0 {
		in.A = a[0]
	}
	if len(a) > 1 {
		in.B = a[1]
	}
	return in
}

// wide is a program of two codes, the second one of which has these instructions: 5 globals, 3 strings, 4 locals, 2 sites, room for 9 values.
func wide(list ...api.Instr) api.Program {
	return api.Program{
		Globals: 5,
		Pool:    []string{"x", "", "y"},
		Codes: []api.Code{
			{Deep: 1, Ins: []api.Instr{ins(api.PushNull), ins(api.Ret)}},
			{Params: 1, Locals: 4, Sites: 2, Deep: 9, Ins: list},
		},
	}
}

// lone is a program of one code of these instructions.
func lone(deep int, list ...api.Instr) api.Program {
	return api.Program{Codes: []api.Code{{Deep: deep, Ins: list}}}
}

// right fails the test unless p is right, and its code f has these depths.
func right(t *testing.T, what string, p api.Program, f int, depths ...int) {
	t.Helper()
	if e := code.Check(p); e != api.OK {
		t.Errorf("%s: Check told %d", what, e)
	}
	if got := code.Depths(p, f); !slices.Equal(got, depths) {
		t.Errorf("%s: the depths are %v, not %v", what, got, depths)
	}
}

// wrong fails the test unless p is refused, and has no depths.
func wrong(t *testing.T, what string, p api.Program) {
	t.Helper()
	if e := code.Check(p); e != api.ErrForm {
		t.Errorf("%s: Check told %d", what, e)
	}
	for f := range p.Codes {
		if got := code.Depths(p, f); len(got) != 0 {
			t.Errorf("%s: code %d has the depths %v", what, f, got)
		}
	}
}

// around is an instruction that has just the values it takes, and ends well; with the depths.
func around(in api.Instr) ([]api.Instr, []int) {
	pops, pushes := modelEffect(in)
	var list []api.Instr
	var depths []int
	for n := range pops {
		list, depths = append(list, ins(api.PushNull)), append(depths, n)
	}
	list, depths = append(list, in), append(depths, pops)
	if in.Op == api.Ret {
		return list, depths
	}
	return append(list, ins(api.PushNull), ins(api.Ret)), append(depths, pushes, pushes+1)
}

// P14.1: each instruction of the table that goes to the next one alone, with A and B at their least and greatest.
func TestEachInstruction(t *testing.T) {
	for _, r := range table() {
		if r.a == "place" {
			continue
		}
		for _, a := range ends(r) {
			for b := range 2 {
				in := ins(r.op, a, b)
				if !r.site {
					in.B = 0
				}
				list, depths := around(in)
				right(t, fmt.Sprint(r.name, in), wide(list...), 1, depths...)
			}
		}
	}
}

// ends are the least and the greatest A of a row, in a code of wide.
func ends(r row) []int {
	p := wide()
	least, most := r.span(p, p.Codes[1])
	return []int{least, most}
}

// P14.1: A or B one beyond what they may be, and far off.
func TestEachInstructionBeyond(t *testing.T) {
	for _, r := range table() {
		if r.a == "place" {
			continue
		}
		e := ends(r)
		for _, a := range []int{e[0] - 1, e[1] + 1, math.MinInt, math.MaxInt} {
			// The depths fit: those that A counts are there in any case.
			in := ins(r.op, e[0])
			list, _ := around(in)
			list[slices.Index(list, in)].A = a
			wrong(t, fmt.Sprint(r.name, " with A ", a), wide(list...))
		}
		bs := []int{-1, 1, math.MinInt, math.MaxInt}
		if r.site {
			bs = []int{-1, 2, math.MinInt, math.MaxInt}
		}
		for _, b := range bs {
			in := ins(r.op, e[0])
			list, _ := around(in)
			list[slices.Index(list, in)].B = b
			wrong(t, fmt.Sprint(r.name, " with B ", b), wide(list...))
		}
	}
}

// P14.1: one value less than an instruction takes is too few.
func TestEachInstructionStarved(t *testing.T) {
	for _, r := range table() {
		for a := range 8 {
			in := ins(r.op, a)
			pops, _ := modelEffect(in)
			if pops == 0 || r.a == "place" {
				continue
			}
			list, _ := around(in)
			wrong(t, fmt.Sprint(r.name, in), wide(list[1:]...))
		}
	}
}

// P14.1: operations that are none.
func TestNoInstruction(t *testing.T) {
	for _, op := range []int{0, -1, 33, 34, 1000, math.MinInt, math.MaxInt} {
		wrong(t, fmt.Sprint("operation ", op), lone(1, ins(op), ins(api.PushNull), ins(api.Ret)))
		wrong(t, fmt.Sprint("operation ", op, ", not come to"), lone(1, ins(api.PushNull), ins(api.Ret), ins(op)))
	}
}

// P14.1: calls of each number of values, by their depths.
func TestCalls(t *testing.T) {
	for n := range mostParams + 1 {
		list := []api.Instr{ins(api.PushThis)}
		depths := []int{0}
		for i := range n {
			list, depths = append(list, ins(api.PushInt, i)), append(depths, i+1)
		}
		plain := append(slices.Clone(list), ins(api.Call, n), ins(api.Ret))
		right(t, fmt.Sprint("Call ", n), wide(plain...), 1, append(slices.Clone(depths), n+1, 1)...)

		list, depths = slices.Insert(list, 1, ins(api.Meth, 2, 1)), append(depths, n+1)
		for i := range depths[1:] {
			depths[i+1] = i + 1
		}
		meth := append(list, ins(api.CallM, n), ins(api.Ret))
		right(t, fmt.Sprint("CallM ", n), wide(meth...), 1, append(depths, n+2, 1)...)
	}
}

// P14.1: a program that may be is so whatever its depths in instructions that are not come to.
func TestNotComeTo(t *testing.T) {
	end := []api.Instr{ins(api.PushNull), ins(api.Ret)}
	for what, dead := range map[string][]api.Instr{
		"a Pop of nothing":           {ins(api.Pop)},
		"a SetIx of nothing":         {ins(api.SetIx), ins(api.Ret)},
		"too deep":                   {ins(api.PushNull), ins(api.PushNull), ins(api.PushNull), ins(api.Ret)},
		"a last one that goes on":    {ins(api.PushNull)},
		"a last Tick":                {ins(api.Tick, 1)},
		"a last JumpNot":             {ins(api.Tick, 1), ins(api.JumpNot, 2)},
		"a last KeepAnd":             {ins(api.Tick, 1), ins(api.KeepAnd, 2)},
		"a loop of its own":          {ins(api.Tick, 1), ins(api.Jump, 2)},
		"unlike depths, both dead":   {ins(api.Tick, 1), ins(api.PushNull), ins(api.Jump, 2)},
		"a JumpNot back, then a Pop": {ins(api.Tick, 1), ins(api.PushNull), ins(api.JumpNot, 2), ins(api.Pop)},
	} {
		p := lone(1, append(slices.Clone(end), dead...)...)
		depths := []int{0, 1}
		for range dead {
			depths = append(depths, -1)
		}
		right(t, what, p, 0, depths...)
	}
	over := lone(1, ins(api.Jump, 3), ins(api.Pop), ins(api.Pop), ins(api.PushNull), ins(api.Ret))
	right(t, "leapt over", over, 0, 0, -1, -1, 0, 1)
	into := lone(1, ins(api.Tick, 1), ins(api.Jump, 0), ins(api.PushNull), ins(api.PushNull), ins(api.Jump, 0), ins(api.PushNull))
	right(t, "dead ones that go to others", into, 0, 0, 0, -1, -1, -1, -1)
}

// P14.1: what must hold of each instruction holds of those that are not come to, too.
func TestNotComeToWrong(t *testing.T) {
	for what, in := range map[string]api.Instr{
		"a Tick of 0":              ins(api.Tick, 0),
		"B":                        ins(api.PushNull, 0, 1),
		"A":                        ins(api.PushNull, 1),
		"no string":                ins(api.PushStr, 0),
		"no code":                  ins(api.PushFun, 1),
		"a jump to no instruction": ins(api.Jump, 4),
		"a jump to itself":         ins(api.Jump, 2),
		"a jump back to no Tick":   ins(api.JumpNot, 1),
		"back to the first one":    ins(api.KeepOr, 0),
	} {
		wrong(t, what, lone(1, ins(api.PushNull), ins(api.Ret), in, ins(api.Ret)))
	}
}

// P14.2: pops and pushes of each instruction, of any A and B.
func TestEffect(t *testing.T) {
	for _, r := range table() {
		for _, a := range append([]int{-2, 0, 1, 2, 3, 4, 5, 6, 7, 8, 9}, farOff...) {
			for _, b := range []int{0, 1, -1, math.MaxInt} {
				in := ins(r.op, a, b)
				pops, pushes := modelEffect(in)
				if gotPops, gotPushes := code.Effect(in); gotPops != pops || gotPushes != pushes {
					t.Errorf("%s %v: %d and %d, not %d and %d", r.name, in, gotPops, gotPushes, pops, pushes)
				}
			}
		}
	}
}

// P14.2: those whose effect hangs on A, by numbers that are written out; and what is no instruction.
func TestEffectByHand(t *testing.T) {
	for _, c := range []struct {
		in           api.Instr
		pops, pushes int
	}{
		{ins(api.Call, 0), 1, 1}, {ins(api.Call, 1), 2, 1}, {ins(api.Call, 6), 7, 1}, {ins(api.Call, 7), 0, 0}, {ins(api.Call, -1), 0, 0},
		{ins(api.Call, math.MaxInt), 0, 0}, {ins(api.Call, math.MinInt), 0, 0},
		{ins(api.CallM, 0), 2, 1}, {ins(api.CallM, 1), 3, 1}, {ins(api.CallM, 6), 8, 1}, {ins(api.CallM, 7), 0, 0}, {ins(api.CallM, -1), 0, 0},
		{ins(api.CallM, math.MaxInt), 0, 0}, {ins(api.CallM, math.MinInt), 0, 0},
		{ins(api.Built, api.BCount), 1, 1}, {ins(api.Built, api.BKey), 2, 1}, {ins(api.Built, api.BHas), 2, 1}, {ins(api.Built, api.BProto), 1, 1},
		{ins(api.Built, api.BSetProto), 2, 1}, {ins(api.Built, api.BLen), 1, 1}, {ins(api.Built, api.BStr), 1, 1},
		{ins(api.Built, 0), 0, 0}, {ins(api.Built, 8), 0, 0}, {ins(api.Built, -1), 0, 0}, {ins(api.Built, math.MaxInt), 0, 0}, {ins(api.Built, math.MinInt), 0, 0},
		{ins(api.KeepAnd, 5), 1, 0}, {ins(api.KeepOr, 5), 1, 0}, {ins(api.JumpNot, -5), 1, 0}, {ins(api.Jump, math.MaxInt), 0, 0},
		{ins(api.Meth, 99, 99), 1, 2}, {ins(api.Bin, 99), 2, 1}, {ins(api.Tick, 0), 0, 0}, {ins(api.PushBool, 2), 0, 1},
		{ins(0), 0, 0}, {ins(-1, 3), 0, 0}, {ins(33, 1), 0, 0}, {ins(math.MaxInt, 1), 0, 0}, {ins(math.MinInt, 1), 0, 0},
	} {
		if pops, pushes := code.Effect(c.in); pops != c.pops || pushes != c.pushes {
			t.Errorf("%v: %d and %d, not %d and %d", c.in, pops, pushes, c.pops, c.pushes)
		}
	}
}

// P14.2: what comes behind each instruction, at the first, a middle and the last place, whether it is there or not.
func TestTargets(t *testing.T) {
	for _, r := range append(table(), row{op: 0}, row{op: 33}, row{op: math.MinInt}) {
		for at := range 3 {
			for _, a := range []int{0, 1, 2, 3, -1, 99, math.MinInt, math.MaxInt} {
				c := api.Code{Ins: []api.Instr{ins(api.Ret, 5), ins(api.Jump, 6), ins(api.KeepOr, 7)}}
				c.Ins[at] = ins(r.op, a)
				want := []int{at + 1}
				switch r.name {
				case "Jump":
					want = []int{a}
				case "JumpNot", "KeepAnd", "KeepOr":
					want = []int{at + 1, a}
				case "Ret":
					want = nil
				}
				if got := code.Targets(c, at); !slices.Equal(got, want) {
					t.Errorf("%s %d at %d: %v, not %v", r.name, a, at, got, want)
				}
			}
		}
	}
}

// P14.2: places that there are not.
func TestTargetsOfNoPlace(t *testing.T) {
	c := api.Code{Ins: []api.Instr{ins(api.PushNull), ins(api.Jump, 0)}}
	for _, at := range []int{-1, 2, 3, math.MinInt, math.MaxInt} {
		if got := code.Targets(c, at); len(got) != 0 {
			t.Errorf("place %d: %v", at, got)
		}
	}
	for _, at := range []int{-1, 0, 1} {
		if got := code.Targets(api.Code{Deep: 3}, at); len(got) != 0 {
			t.Errorf("no instructions, place %d: %v", at, got)
		}
	}
}

// fresh is a program to be changed in one field.
func fresh() api.Program {
	p := wide(ins(api.PushStr, 2), ins(api.Get, 1, 1), ins(api.Ret))
	p.Codes = append(p.Codes, api.Code{Params: 2, Locals: 3, Sites: 1, Deep: 4, Ins: []api.Instr{ins(api.PushThis), ins(api.Ret)}})
	return p
}

// P14.2: programs that differ in one thing are not the same.
func TestSame(t *testing.T) {
	if !code.Same(fresh(), fresh()) {
		t.Error("a program is not the same as itself")
	}
	for what, change := range map[string]func(p *api.Program){
		"Globals":             func(p *api.Program) { p.Globals++ },
		"a string":            func(p *api.Program) { p.Pool[1] = "z" },
		"the last string":     func(p *api.Program) { p.Pool[2] = "y " },
		"the order of Pool":   func(p *api.Program) { p.Pool[0], p.Pool[2] = p.Pool[2], p.Pool[0] },
		"fewer strings":       func(p *api.Program) { p.Pool = p.Pool[:2] },
		"more strings":        func(p *api.Program) { p.Pool = append(p.Pool, "") },
		"no strings":          func(p *api.Program) { p.Pool = nil },
		"Params":              func(p *api.Program) { p.Codes[1].Params++ },
		"Locals":              func(p *api.Program) { p.Codes[1].Locals++ },
		"Sites":               func(p *api.Program) { p.Codes[1].Sites++ },
		"Deep":                func(p *api.Program) { p.Codes[1].Deep++ },
		"Deep of the last":    func(p *api.Program) { p.Codes[2].Deep-- },
		"Deep of the first":   func(p *api.Program) { p.Codes[0].Deep = math.MinInt },
		"Op":                  func(p *api.Program) { p.Codes[1].Ins[0].Op++ },
		"A":                   func(p *api.Program) { p.Codes[1].Ins[1].A-- },
		"B":                   func(p *api.Program) { p.Codes[1].Ins[1].B-- },
		"B of the last":       func(p *api.Program) { p.Codes[2].Ins[1].B-- },
		"the order of codes":  func(p *api.Program) { p.Codes[1], p.Codes[2] = p.Codes[2], p.Codes[1] },
		"the order of Ins":    func(p *api.Program) { l := p.Codes[1].Ins; l[0], l[1] = l[1], l[0] },
		"fewer codes":         func(p *api.Program) { p.Codes = p.Codes[:2] },
		"more codes":          func(p *api.Program) { p.Codes = append(p.Codes, api.Code{}) },
		"fewer instructions":  func(p *api.Program) { p.Codes[1].Ins = p.Codes[1].Ins[:2] },
		"more instructions":   func(p *api.Program) { p.Codes[1].Ins = append(p.Codes[1].Ins, api.Instr{}) },
		"no instructions":     func(p *api.Program) { p.Codes[2].Ins = nil },
		"no codes":            func(p *api.Program) { p.Codes = nil },
		"nothing of the rest": func(p *api.Program) { *p = api.Program{} },
	} {
		p := fresh()
		change(&p)
		if code.Same(p, fresh()) || code.Same(fresh(), p) {
			t.Errorf("%s: they are the same", what)
		}
		if !code.Same(p, p) {
			t.Errorf("%s: it is not the same as itself", what)
		}
	}
}

// P14.2: no list and an empty one are one.
func TestSameOfNone(t *testing.T) {
	empty := api.Program{Pool: []string{}, Codes: []api.Code{}}
	if !code.Same(api.Program{}, empty) || !code.Same(empty, api.Program{}) {
		t.Error("no lists and empty ones")
	}
	a := api.Program{Codes: []api.Code{{Ins: []api.Instr{}}}}
	b := api.Program{Pool: []string{}, Codes: []api.Code{{}}}
	if !code.Same(a, b) || !code.Same(b, a) {
		t.Error("no instructions and an empty list")
	}
}

// P14.2: programs need not be right to be the same, and equal bytes are so wherever they lie.
func TestSameOfWrongOnes(t *testing.T) {
	long := strings.Repeat("a", 1000)
	a := api.Program{Globals: -4, Pool: []string{long}, Codes: []api.Code{{Deep: -1, Ins: []api.Instr{{Op: -7, A: 1, B: 2}}}}}
	b := api.Program{Globals: -4, Pool: []string{strings.Clone(long)}, Codes: []api.Code{{Deep: -1, Ins: []api.Instr{{Op: -7, A: 1, B: 2}}}}}
	if !code.Same(a, b) {
		t.Error("they are not the same")
	}
	b.Pool[0] = long[1:] + "b"
	if code.Same(a, b) {
		t.Error("they are the same")
	}
}
