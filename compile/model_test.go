package compile_test

import (
	"slices"
	"strconv"
	"strings"

	"proteus/api"
)

// formOf is what the document's table says of a node behind its Tick, as words: an instruction with what A is behind a colon; K and a number for a Kid; K* for all Kids, K+ for all but the first one; a place's name behind = for where it is.
func formOf(n api.Node) string {
	switch n.Kind {
	case 1:
		return "PushNull"
	case 2:
		return "PushBool:N"
	case 3:
		return "PushInt:N"
	case 4:
		return "PushStr:S"
	case 6:
		return "PushThis"
	case 7:
		s := "NewObj"
		for i, name := range n.Names {
			s += " K" + strconv.Itoa(i) + " Init:." + name
		}
		return s
	case 9:
		return "K0 Un:Op"
	case 10:
		return "K0 K1 Bin:Op"
	case 11:
		return "K0 KeepAnd:L K1 =L"
	case 12:
		return "K0 KeepOr:L K1 =L"
	case 13:
		return "K0 Get:S"
	case 14:
		return "K0 K1 GetIx"
	case 15:
		return "K* Call:less"
	case 16:
		return "K0 Meth:S K+ CallM:less"
	case 17:
		return "K* Built:Op"
	case 18:
		return "GetLocal:N"
	case 19:
		return "GetGlobal:N"
	case 20:
		return "PushFun:N"
	}
	return formOfStmt(n.Kind)
}

func formOfStmt(kind int) string {
	return map[int]string{
		23: "K0 K1 Set:S",
		24: "K0 K1 K2 SetIx",
		25: "K0 Del:S",
		26: "K0 K1 DelIx",
		27: "K0 Print",
		28: "K0 JumpNot:L K1 Jump:M =L K2 =M",
		29: "K*",
		30: "=L K0 JumpNot:M K1 Jump:L =M",
		31: "K0 Ret",
		32: "K0 Pop",
		33: "K0 SetLocal:N",
		34: "K0 SetGlobal:N",
	}[kind]
}

// part is an instruction whose A is not a number yet, or a place.
type part struct {
	word   string
	a      int
	text   string // a string, or the name of a place
	isText bool
	isGoal bool
	isMark bool
}

// sketch is a function's parts; its places have names, each another one.
type sketch struct {
	parts []part
	names int
}

func (s *sketch) node(n api.Node) {
	s.names++
	mine := strconv.Itoa(s.names)
	s.parts = append(s.parts, part{word: "Tick", a: 1})
	for _, w := range strings.Fields(formOf(n)) {
		word, what, _ := strings.Cut(w, ":")
		p := part{word: word}
		switch {
		case w == "K*":
			s.all(n.Kids)
			continue
		case w == "K+":
			s.all(n.Kids[1:])
			continue
		case w[0] == 'K' && w[1] >= '0' && w[1] <= '9':
			i, _ := strconv.Atoi(w[1:])
			s.node(n.Kids[i])
			continue
		case w[0] == '=':
			p = part{text: w[1:] + mine, isMark: true}
		case what == "N":
			p.a = n.N
		case what == "Op":
			p.a = n.Op
		case what == "less":
			p.a = len(n.Kids) - 1
		case what == "S":
			p.text, p.isText = n.S, true
		case strings.HasPrefix(what, "."):
			p.text, p.isText = what[1:], true
		case what != "":
			p.text, p.isGoal = what+mine, true
		}
		s.parts = append(s.parts, p)
	}
}

func (s *sketch) all(l []api.Node) {
	for _, n := range l {
		s.node(n)
	}
}

// places are where the marks are, among the instructions.
func (s *sketch) places() map[string]int {
	found := map[string]int{}
	at := 0
	for _, p := range s.parts {
		if p.isMark {
			found[p.text] = at
		} else {
			at++
		}
	}
	return found
}

// code is the sketch with numbers; strings that are new are put behind the others.
func (s *sketch) code(texts *[]string) api.Code {
	var c api.Code
	places := s.places()
	for _, p := range s.parts {
		if p.isMark {
			continue
		}
		in := api.Instr{Op: slices.Index(words(), p.word) + 1, A: p.a}
		if p.isGoal {
			in.A = places[p.text]
		}
		if p.isText {
			if !slices.Contains(*texts, p.text) {
				*texts = append(*texts, p.text)
			}
			in.A = slices.Index(*texts, p.text)
		}
		if slices.Contains([]string{"Init", "Get", "Set", "Meth"}, p.word) {
			in.B = c.Sites
			c.Sites++
		}
		c.Ins = append(c.Ins, in)
	}
	c.Deep = modelDeep(c.Ins)
	return c
}

// modelDeep goes through instructions from the first one to the last one, by how many values each lays, less those that it takes.
func modelDeep(l []api.Instr) int {
	more := map[string]int{
		"PushNull": 1, "PushBool": 1, "PushInt": 1, "PushStr": 1, "PushThis": 1, "PushFun": 1, "GetLocal": 1, "GetGlobal": 1, "NewObj": 1, "Meth": 1,
		"SetLocal": -1, "SetGlobal": -1, "Init": -1, "GetIx": -1, "Del": -1, "Bin": -1, "JumpNot": -1, "KeepAnd": -1, "KeepOr": -1, "Print": -1, "Pop": -1, "Ret": -1,
		"Set": -2, "DelIx": -2, "SetIx": -3,
	}
	depths := []int{0}
	for _, in := range l {
		change := more[wordOf(in.Op)]
		switch wordOf(in.Op) {
		case "Call":
			change = -in.A
		case "CallM":
			change = -in.A - 1
		case "Built":
			change = []int{0, 0, -1, -1, 0, -1, 0, 0}[in.A]
		}
		depths = append(depths, depths[len(depths)-1]+change)
	}
	return slices.Max(depths)
}

// modelUnit is what comes of a unit that may be.
func modelUnit(u api.Unit) (api.Program, api.Errno) {
	p := api.Program{Globals: u.Globals}
	var first api.Errno
	for _, f := range u.Fns {
		s := &sketch{}
		s.all(f.Body)
		s.parts = append(s.parts, part{word: "PushNull"}, part{word: "Ret"})
		c := s.code(&p.Pool)
		c.Params, c.Locals = f.Params, f.Locals
		p.Codes = append(p.Codes, c)
		switch {
		case first != api.OK:
		case len(c.Ins) > maxIns:
			first = api.ErrFull
		case c.Deep > maxStack:
			first = api.ErrDeep
		}
	}
	if first == api.OK && len(p.Pool) > maxPool {
		first = api.ErrFull
	}
	if first != api.OK {
		return api.Program{}, first
	}
	return p, api.OK
}
