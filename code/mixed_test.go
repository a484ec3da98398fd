package code_test

import (
	"fmt"
	"slices"
	"testing"

	"proteus/api"
	"proteus/code"
)

// dice are numbers that look mixed, the same ones each time.
type dice uint64

func (d *dice) below(n int) int {
	*d = *d*6364136223846793005 + 1442695040888963407
	return int(uint64(*d) >> 33 % uint64(n))
}

// agree holds Check and Depths against the model, and tells whether p is right.
func agree(t *testing.T, p api.Program) bool {
	t.Helper()
	ok := modelRight(p)
	if e := code.Check(p); ok && e != api.OK || !ok && e != api.ErrForm {
		t.Fatalf("Check told %d, the model %v: %v", e, ok, p)
	}
	for f, c := range p.Codes {
		var want []int
		if ok {
			want, _ = modelDepths(c)
		}
		if got := code.Depths(p, f); !slices.Equal(got, want) {
			t.Fatalf("the depths of code %d are %v, not %v: %v", f, got, want, p)
		}
	}
	return ok
}

// P14.1, P14.3: all codes of up to four instructions out of a few.
func TestAllShortCodes(t *testing.T) {
	few := []api.Instr{
		ins(api.Tick, 1), ins(api.PushNull), ins(api.Pop), ins(api.Ret), ins(api.Un, 1),
		ins(api.Jump, 0), ins(api.Jump, 2), ins(api.Jump, 3), ins(api.JumpNot, 0), ins(api.JumpNot, 3), ins(api.KeepAnd, 1), ins(api.KeepOr, 3),
	}
	count := 0
	for long := 1; long <= 4; long++ {
		rows := 1
		for range long {
			rows *= len(few)
		}
		for row := range rows {
			list := make([]api.Instr, long)
			for at, r := 0, row; at < long; at, r = at+1, r/len(few) {
				list[at] = few[r%len(few)]
			}
			for deep := range 3 {
				p := lone(deep, list...)
				if agree(t, p) {
					count++
					follow(t, p)
				}
			}
		}
	}
	if count < 500 {
		t.Errorf("only %d of them are right", count)
	}
}

// grower makes codes that may be: it knows the depth of what it lays down.
type grower struct {
	dice
	p    api.Program
	c    *api.Code
	most int
}

func (g *grower) lay(op int, ab ...int) {
	g.c.Ins = append(g.c.Ins, ins(op, ab...))
}

// jump lays one whose A is not known yet, and answers where it is.
func (g *grower) jump(op int) int {
	g.lay(op)
	return len(g.c.Ins) - 1
}

// here lets a jump go to what comes next.
func (g *grower) here(at int) { g.c.Ins[at].A = len(g.c.Ins) }

// value lays one value, by as many instructions as it takes.
func (g *grower) value(depth, nest int) {
	g.most = max(g.most, depth+1)
	if nest == 0 {
		g.leaf()
		return
	}
	switch g.below(10) {
	case 0:
		g.value(depth, nest-1)
		g.lay(api.Un, 1+g.below(2))
	case 1:
		g.value(depth, nest-1)
		g.value(depth+1, nest-1)
		g.lay(api.Bin, 1+g.below(11))
	case 2:
		g.value(depth, nest-1)
		at := g.jump(api.KeepAnd + g.below(2))
		g.value(depth, nest-1)
		g.here(at)
	case 3:
		n := g.below(mostParams + 1)
		for i := range n + 1 {
			g.value(depth+i, nest-1)
		}
		g.lay(api.Call, n)
	case 4:
		g.value(depth, nest-1)
		g.lay(api.Meth, g.below(len(g.p.Pool)), g.below(g.c.Sites))
		g.most = max(g.most, depth+2)
		n := g.below(mostParams + 1)
		for i := range n {
			g.value(depth+2+i, nest-1)
		}
		g.lay(api.CallM, n)
	case 5:
		op := 1 + g.below(7)
		for i := range builtArgs[op] {
			g.value(depth+i, nest-1)
		}
		g.lay(api.Built, op)
	case 6:
		g.lay(api.NewObj)
		for range g.below(3) {
			g.value(depth+1, nest-1)
			g.lay(api.Init, g.below(len(g.p.Pool)), g.below(g.c.Sites))
		}
	case 7:
		g.value(depth, nest-1)
		g.lay(api.Get, g.below(len(g.p.Pool)), g.below(g.c.Sites))
	case 8:
		g.value(depth, nest-1)
		g.value(depth+1, nest-1)
		g.lay(api.GetIx)
	default:
		g.leaf()
	}
}

// leaf lays one value, taking none.
func (g *grower) leaf() {
	switch g.below(8) {
	case 0:
		g.lay(api.PushNull)
	case 1:
		g.lay(api.PushBool, g.below(2))
	case 2:
		g.lay(api.PushInt, []int{leastInt, -1, 0, 1, mostInt}[g.below(5)])
	case 3:
		g.lay(api.PushStr, g.below(len(g.p.Pool)))
	case 4:
		g.lay(api.PushThis)
	case 5:
		g.lay(api.PushFun, g.below(3))
	case 6:
		if g.c.Locals > 0 {
			g.lay(api.GetLocal, g.below(g.c.Locals))
			return
		}
		g.lay(api.PushNull)
	default:
		g.lay(api.GetGlobal, g.below(g.p.Globals))
	}
}

// deed leaves the depth as it was.
func (g *grower) deed(depth, nest int) {
	g.lay(api.Tick, 1+g.below(1000))
	switch g.below(10) {
	case 0:
		g.value(depth, nest)
		at := g.jump(api.JumpNot)
		g.deeds(depth, nest-1)
		over := g.jump(api.Jump)
		g.here(at)
		g.deeds(depth, nest-1)
		g.here(over)
	case 1:
		top := len(g.c.Ins)
		g.lay(api.Tick, 1)
		g.value(depth, nest)
		at := g.jump(api.JumpNot)
		g.deeds(depth, nest-1)
		g.lay(api.Jump, top)
		g.here(at)
	case 2:
		top := len(g.c.Ins)
		g.lay(api.Tick, 2)
		g.deeds(depth, nest-1)
		g.value(depth, nest)
		g.lay(api.JumpNot, top)
	case 3:
		g.value(depth, nest)
		g.lay(api.Ret)
	case 4:
		for i := range 3 {
			g.value(depth+i, nest-1)
		}
		g.lay(api.SetIx)
	case 5:
		g.value(depth, nest)
		g.value(depth+1, nest)
		g.lay(api.Set, g.below(len(g.p.Pool)), g.below(g.c.Sites))
	case 6:
		g.value(depth, nest)
		g.lay(api.Del, g.below(len(g.p.Pool)))
	case 7:
		g.value(depth, nest)
		g.value(depth+1, nest)
		g.lay(api.DelIx)
	case 8:
		g.value(depth, nest)
		g.lay(api.SetGlobal, g.below(g.p.Globals))
	default:
		g.value(depth, nest)
		g.lay(api.Print + g.below(2))
	}
}

func (g *grower) deeds(depth, nest int) {
	if nest <= 0 {
		return
	}
	for range g.below(3) {
		g.deed(depth, nest)
	}
}

// grown is a program of three codes that may be, with Deep just what it needs.
func grown(seed int) api.Program {
	g := &grower{dice: dice(seed)}
	g.p = api.Program{Globals: 1 + g.below(mostVars), Pool: make([]string, 1+g.below(9)), Codes: make([]api.Code, 3)}
	for f := range g.p.Codes {
		g.c = &g.p.Codes[f]
		g.c.Sites = 1 + g.below(5)
		if f > 0 {
			g.c.Params = g.below(mostParams + 1)
			g.c.Locals = g.c.Params + g.below(mostVars+1-mostParams)
		}
		g.most = 0
		for range 1 + g.below(4) {
			g.deed(0, 2)
		}
		g.value(0, 1)
		g.lay(api.Ret)
		g.c.Deep = g.most
	}
	return g.p
}

// P14.1, P14.3: programs that are right as they were made, with Deep just enough for the deepest instruction that there is.
func TestGrown(t *testing.T) {
	for seed := range 300 {
		p := grown(seed)
		if !agree(t, p) {
			t.Fatalf("program %d is not right: %v", seed, p)
		}
		follow(t, p)
		for f := range p.Codes {
			deepest := slices.Max(code.Depths(p, f))
			p.Codes[f].Deep = deepest
			if !agree(t, p) {
				t.Fatalf("program %d: Deep %d is not enough", seed, deepest)
			}
			p.Codes[f].Deep--
			if agree(t, p) {
				t.Fatalf("program %d: Deep %d is enough", seed, deepest-1)
			}
			p.Codes[f].Deep++
		}
	}
}

// spoil changes one thing of a program.
func (d *dice) spoil(p *api.Program) {
	c := &p.Codes[d.below(len(p.Codes))]
	at := d.below(len(c.Ins))
	in := &c.Ins[at]
	number := d.below(40) - 4
	if d.below(6) == 0 {
		number = farOff[d.below(len(farOff))]
	}
	switch d.below(14) {
	case 0, 1:
		in.Op = number
	case 2, 3:
		in.A = number
	case 4:
		in.B = number
	case 5:
		in.A += d.below(3) - 1
	case 6:
		in.A = d.below(len(c.Ins) + 1)
	case 7:
		c.Ins = slices.Delete(c.Ins, at, at+1)
	case 8:
		c.Ins = slices.Insert(c.Ins, at, ins(1+d.below(32), d.below(8)))
	case 9:
		to := d.below(len(c.Ins))
		c.Ins[at], c.Ins[to] = c.Ins[to], c.Ins[at]
	case 10:
		n := []*int{&c.Params, &c.Locals, &c.Sites, &c.Deep, &p.Globals}[d.below(5)]
		*n += d.below(3) - 1
	case 11:
		p.Pool = p.Pool[:len(p.Pool)-1]
	case 12:
		p.Codes = p.Codes[:len(p.Codes)-1]
	case 13:
		*in = ins(1+d.below(32), d.below(8))
	}
}

// P14.1, P14.3: programs that were right, with one to three things changed.
func TestSpoilt(t *testing.T) {
	ok, refused := 0, 0
	for seed := range 4000 {
		d, p := dice(seed), grown(seed%97)
		for range 1 + d.below(3) {
			if len(p.Codes) > 0 && len(p.Pool) > 0 && !slices.ContainsFunc(p.Codes, func(c api.Code) bool { return len(c.Ins) == 0 }) {
				d.spoil(&p)
			}
		}
		if agree(t, p) {
			ok++
			follow(t, p)
		} else {
			refused++
		}
	}
	if ok < 300 || refused < 300 {
		t.Errorf("%d were right, %d not", ok, refused)
	}
}

// follow holds the depths of a right program against Effect and Targets, and goes ways through it.
func follow(t *testing.T, p api.Program) {
	t.Helper()
	for f, c := range p.Codes {
		depths := code.Depths(p, f)
		if len(depths) != len(c.Ins) || depths[0] != 0 {
			t.Fatalf("code %d has the depths %v: %v", f, depths, p)
		}
		for at, depth := range depths {
			if depth >= 0 {
				hold(t, c, depths, at)
			} else if depth != -1 {
				t.Fatalf("depth %d of instruction %d: %v", depth, at, p)
			}
		}
		wander(t, c, depths, dice(len(c.Ins)))
	}
}

// hold asks of one instruction that is come to what P14.3 says: enough on the stack, room behind it, another one behind it but behind a Ret, and a Tick where it goes back.
func hold(t *testing.T, c api.Code, depths []int, at int) {
	t.Helper()
	in := c.Ins[at]
	pops, pushes := code.Effect(in)
	if pops > depths[at] || depths[at] > c.Deep {
		t.Fatalf("instruction %d takes %d of %d: %v", at, pops, depths[at], c)
	}
	targets := code.Targets(c, at)
	if (len(targets) == 0) != (in.Op == api.Ret) {
		t.Fatalf("behind instruction %d comes %v: %v", at, targets, c)
	}
	for nth, to := range targets {
		if to < 0 || to >= len(c.Ins) {
			t.Fatalf("instruction %d goes to %d: %v", at, to, c)
		}
		behind := depths[at] - pops + pushes
		if nth == 1 && (in.Op == api.KeepAnd || in.Op == api.KeepOr) {
			behind++
		}
		if depths[to] != behind || behind > c.Deep {
			t.Fatalf("the depth of %d is %d, not %d as behind %d: %v", to, depths[to], behind, at, c)
		}
		if to <= at && c.Ins[to].Op != api.Tick {
			t.Fatalf("instruction %d goes back to %d, no Tick: %v", at, to, c)
		}
	}
}

// wander goes a few ways through a code over a stack of values that is really there.
func wander(t *testing.T, c api.Code, depths []int, d dice) {
	t.Helper()
	for range 3 {
		var stack []int
		for at, steps := 0, 0; steps < 200; steps++ {
			if len(stack) != depths[at] {
				t.Fatalf("%d values at instruction %d, not %d: %v", len(stack), at, depths[at], c)
			}
			in := c.Ins[at]
			pops, pushes := code.Effect(in)
			top := 0
			if pops > 0 {
				top = stack[len(stack)-1]
			}
			stack = stack[:len(stack)-pops]
			for range pushes {
				stack = append(stack, at)
			}
			targets := code.Targets(c, at)
			if len(targets) == 0 {
				break
			}
			nth := d.below(len(targets))
			if nth == 1 && (in.Op == api.KeepAnd || in.Op == api.KeepOr) {
				stack = append(stack, top)
			}
			at = targets[nth]
		}
	}
}

// R3: what is handed in is not changed, its spare room included, and what is answered is new.
func TestNothingIsChanged(t *testing.T) {
	for seed := range 40 {
		p := grown(seed)
		roomy := api.Program{Globals: p.Globals, Pool: append(make([]string, 0, 20), p.Pool...)}
		roomy.Codes = append(make([]api.Code, 0, 9), p.Codes...)
		for f, c := range roomy.Codes {
			roomy.Codes[f].Ins = append(make([]api.Instr, 0, len(c.Ins)+9), c.Ins...)
		}
		before := fmt.Sprint(whole(roomy))
		for f, c := range roomy.Codes {
			code.Check(roomy)
			code.Same(roomy, p)
			first := code.Depths(roomy, f)
			kept := slices.Clone(first)
			for i := range first {
				first[i] = 77
			}
			if !slices.Equal(code.Depths(roomy, f), kept) {
				t.Fatalf("program %d: other depths the second time", seed)
			}
			for at := range c.Ins {
				ways := code.Targets(c, at)
				kept := slices.Clone(ways)
				for i := range ways {
					ways[i] = 77
				}
				if !slices.Equal(code.Targets(c, at), kept) {
					t.Fatalf("program %d: other ways the second time", seed)
				}
			}
		}
		if fmt.Sprint(whole(roomy)) != before {
			t.Fatalf("program %d was changed", seed)
		}
	}
}

// whole is a program with the spare room of its lists.
func whole(p api.Program) api.Program {
	p.Pool = p.Pool[:cap(p.Pool)]
	p.Codes = slices.Clone(p.Codes[:cap(p.Codes)])
	for f, c := range p.Codes {
		p.Codes[f].Ins = c.Ins[:cap(c.Ins)]
	}
	return p
}

// P14.1: the longest codes that there can be are looked at within bounds, whatever ways they have.
func TestLongest(t *testing.T) {
	list := []api.Instr{ins(api.Tick, 1)}
	for len(list) < mostIns-2 {
		list = append(list, ins(api.PushNull), ins(api.JumpNot, 0))
	}
	list = append(list, ins(api.Jump, 0))
	p := api.Program{}
	for range mostFns {
		p.Codes = append(p.Codes, api.Code{Deep: 1, Ins: list})
	}
	want := make([]int, len(list))
	for at := 2; at < len(list)-1; at += 2 {
		want[at] = 1
	}
	right(t, "loops", p, mostFns-1, want...)
}
