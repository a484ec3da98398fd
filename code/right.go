package code

import (
	"proteus/api"
	"proteus/num"
)

// mostTick is how many steps one Tick takes at most.
const mostTick = 1000

// rightSizes asks for what a program has beside its codes' insides. It comes first: once the numbers of codes and of strings are within bounds, so is the work on them.
func rightSizes(p api.Program) bool {
	if !within(p.Globals, 0, api.MaxVars) || !within(len(p.Codes), 1, api.MaxFns) || len(p.Pool) > api.MaxPool {
		return false
	}
	for _, s := range p.Pool {
		if len(s) > api.MaxStr {
			return false
		}
	}
	return p.Codes[0].Params == 0 && p.Codes[0].Locals == 0
}

// rightCode asks for all that a code must be, but for its depths.
func rightCode(p api.Program, c api.Code) bool {
	if !within(c.Params, 0, api.MaxParams) || !within(c.Locals, c.Params, api.MaxVars) || !within(c.Sites, 0, api.MaxIns) {
		return false
	}
	if !within(c.Deep, 0, api.MaxStack) || !within(len(c.Ins), 1, api.MaxIns) {
		return false
	}
	for at, in := range c.Ins {
		if !rightInstr(p, c, in) {
			return false
		}
		// Each loop must take steps, so that fuel ends it.
		if goesToA(in.Op) && in.A <= at && c.Ins[in.A].Op != api.Tick {
			return false
		}
	}
	return true
}

func rightInstr(p api.Program, c api.Code, in api.Instr) bool {
	if !within(in.Op, api.Tick, api.Ret) {
		return false
	}
	least, most := spanOfA(p, c, in.Op)
	if !within(in.A, least, most) {
		return false
	}
	if hasSite(in.Op) {
		return within(in.B, 0, c.Sites-1)
	}
	return in.B == 0
}

// spanOfA is the least and the greatest number that A may be; it is empty where what A counts is not there.
func spanOfA(p api.Program, c api.Code, op int) (int, int) {
	switch op {
	case api.Tick:
		return 1, mostTick
	case api.PushBool:
		return 0, 1
	case api.PushInt:
		return num.Least, num.Most
	case api.PushStr, api.Init, api.Get, api.Set, api.Meth, api.Del:
		return 0, len(p.Pool) - 1
	case api.PushFun:
		return 0, len(p.Codes) - 1
	case api.GetLocal, api.SetLocal:
		return 0, c.Locals - 1
	case api.GetGlobal, api.SetGlobal:
		return 0, p.Globals - 1
	case api.Un:
		return api.Neg, api.Not
	case api.Bin:
		return api.Add, api.Ne
	case api.Jump, api.JumpNot, api.KeepAnd, api.KeepOr:
		return 0, len(c.Ins) - 1
	case api.Call, api.CallM:
		return 0, api.MaxParams
	case api.Built:
		return api.BCount, api.BStr
	}
	return 0, 0
}

// hasSite asks whether B of such an instruction is a site.
func hasSite(op int) bool {
	return op == api.Init || op == api.Get || op == api.Set || op == api.Meth
}

func within(n, least, most int) bool { return least <= n && n <= most }
