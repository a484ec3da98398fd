package code_test

import (
	"math"

	"proteus/api"
)

// The limits of the document, as numbers of their own.
const (
	mostVars   = 24
	mostFns    = 32
	mostPool   = 120
	mostStr    = 256
	mostParams = 6
	mostIns    = 4000
	mostStack  = 64
	leastInt   = -1 << 62
	mostInt    = 1<<62 - 1
)

// row is what the document's table says of one instruction: what A is, whether B is a site, pops and pushes (without those that A counts).
type row struct {
	op           int
	name, a      string
	site         bool
	pops, pushes int
}

func table() []row {
	return []row{
		{1, "Tick", "steps", false, 0, 0},
		{2, "PushNull", "", false, 0, 1},
		{3, "PushBool", "bool", false, 0, 1},
		{4, "PushInt", "int", false, 0, 1},
		{5, "PushStr", "pool", false, 0, 1},
		{6, "PushThis", "", false, 0, 1},
		{7, "PushFun", "code", false, 0, 1},
		{8, "GetLocal", "local", false, 0, 1},
		{9, "SetLocal", "local", false, 1, 0},
		{10, "GetGlobal", "global", false, 0, 1},
		{11, "SetGlobal", "global", false, 1, 0},
		{12, "NewObj", "", false, 0, 1},
		{13, "Init", "pool", true, 2, 1},
		{14, "Get", "pool", true, 1, 1},
		{15, "Set", "pool", true, 2, 0},
		{16, "GetIx", "", false, 2, 1},
		{17, "SetIx", "", false, 3, 0},
		{18, "Del", "pool", false, 1, 0},
		{19, "DelIx", "", false, 2, 0},
		{20, "Un", "un", false, 1, 1},
		{21, "Bin", "bin", false, 2, 1},
		{22, "Jump", "place", false, 0, 0},
		{23, "JumpNot", "place", false, 1, 0},
		{24, "KeepAnd", "place", false, 1, 0},
		{25, "KeepOr", "place", false, 1, 0},
		{26, "Call", "args", false, 1, 1},
		{27, "Meth", "pool", true, 1, 2},
		{28, "CallM", "args", false, 2, 1},
		{29, "Built", "built", false, 0, 1},
		{30, "Print", "", false, 1, 0},
		{31, "Pop", "", false, 1, 0},
		{32, "Ret", "", false, 1, 0},
	}
}

// rowOf is the row of an operation, if it has one.
func rowOf(op int) (row, bool) {
	for _, r := range table() {
		if r.op == op {
			return r, true
		}
	}
	return row{}, false
}

// builtArgs are how many values each built-in call takes.
var builtArgs = map[int]int{1: 1, 2: 2, 3: 2, 4: 1, 5: 2, 6: 1, 7: 1}

// span is from which number to which one A may be.
func (r row) span(p api.Program, c api.Code) (int, int) {
	spans := map[string][2]int{
		"":       {0, 0},
		"steps":  {1, 1000},
		"bool":   {0, 1},
		"int":    {leastInt, mostInt},
		"pool":   {0, len(p.Pool) - 1},
		"code":   {0, len(p.Codes) - 1},
		"local":  {0, c.Locals - 1},
		"global": {0, p.Globals - 1},
		"un":     {1, 2},
		"bin":    {1, 11},
		"place":  {0, len(c.Ins) - 1},
		"args":   {0, mostParams},
		"built":  {1, 7},
	}
	s := spans[r.a]
	return s[0], s[1]
}

// modelEffect is what Effect must tell.
func modelEffect(in api.Instr) (int, int) {
	r, ok := rowOf(in.Op)
	switch {
	case !ok:
		return 0, 0
	case r.a == "args" && (in.A < 0 || in.A > mostParams):
		return 0, 0
	case r.a == "args":
		return r.pops + in.A, r.pushes
	case r.a == "built" && builtArgs[in.A] == 0:
		return 0, 0
	case r.a == "built":
		return builtArgs[in.A], r.pushes
	}
	return r.pops, r.pushes
}

// way is a place that is come to with a depth.
type way struct{ to, depth int }

// modelWays are where an instruction at a depth goes, and with which depths.
func modelWays(in api.Instr, at, depth int) []way {
	pops, pushes := modelEffect(in)
	behind := depth - pops + pushes
	switch in.Op {
	case 22:
		return []way{{in.A, behind}}
	case 23:
		return []way{{at + 1, behind}, {in.A, behind}}
	case 24, 25:
		return []way{{at + 1, behind}, {in.A, depth}}
	case 32:
		return nil
	}
	return []way{{at + 1, behind}}
}

// modelDepths goes all ways, one after another, and is right where each place has but one depth.
func modelDepths(c api.Code) ([]int, bool) {
	seen := map[way]bool{{0, 0}: true}
	list := []way{{0, 0}}
	for n := 0; n < len(list); n++ {
		w := list[n]
		if w.to >= len(c.Ins) || w.depth > c.Deep {
			return nil, false
		}
		if pops, _ := modelEffect(c.Ins[w.to]); pops > w.depth {
			return nil, false
		}
		for _, next := range modelWays(c.Ins[w.to], w.to, w.depth) {
			if !seen[next] {
				seen[next] = true
				list = append(list, next)
			}
		}
	}
	depths := make([]int, len(c.Ins))
	for at := range depths {
		depths[at] = -1
		for w := range seen {
			if w.to == at && depths[at] >= 0 {
				return nil, false
			}
			if w.to == at {
				depths[at] = w.depth
			}
		}
	}
	return depths, true
}

func modelInstr(p api.Program, c api.Code, at int) bool {
	in := c.Ins[at]
	r, ok := rowOf(in.Op)
	if !ok {
		return false
	}
	if least, most := r.span(p, c); in.A < least || in.A > most {
		return false
	}
	if r.site && (in.B < 0 || in.B >= c.Sites) || !r.site && in.B != 0 {
		return false
	}
	return r.a != "place" || in.A > at || c.Ins[in.A].Op == 1
}

func modelCode(p api.Program, c api.Code) bool {
	if c.Params < 0 || c.Params > mostParams || c.Locals < c.Params || c.Locals > mostVars {
		return false
	}
	if c.Sites < 0 || c.Sites > mostIns || c.Deep < 0 || c.Deep > mostStack || len(c.Ins) < 1 || len(c.Ins) > mostIns {
		return false
	}
	for at := range c.Ins {
		if !modelInstr(p, c, at) {
			return false
		}
	}
	_, ok := modelDepths(c)
	return ok
}

// modelRight is what Check must tell.
func modelRight(p api.Program) bool {
	if p.Globals < 0 || p.Globals > mostVars || len(p.Codes) < 1 || len(p.Codes) > mostFns || len(p.Pool) > mostPool {
		return false
	}
	for _, s := range p.Pool {
		if len(s) > mostStr {
			return false
		}
	}
	for f, c := range p.Codes {
		if f == 0 && (c.Params != 0 || c.Locals != 0) || !modelCode(p, c) {
			return false
		}
	}
	return true
}

// farOff are numbers that are hardly ever right.
var farOff = []int{math.MinInt, math.MinInt + 1, -1000, -1, 33, 1001, 4001, math.MaxInt - 1, math.MaxInt}
