package asm_test

import (
	"fmt"
	"math/big"
	"regexp"
	"strings"

	"proteus/api"
	"proteus/code"
)

// The limits of the document, as numbers of their own.
const (
	mostVars   = 24
	mostFns    = 32
	mostPool   = 120
	mostStr    = 256
	mostParams = 6
	mostIns    = 4000
	mostStack  = 64
	leastInt   = -1 << 62
	mostInt    = 1<<62 - 1
)

// row is what the document says of one instruction: its name, and how many numbers stand behind that.
type row struct {
	op      int
	name    string
	numbers int
}

func table() []row {
	return []row{
		{1, "tick", 1}, {2, "null", 0}, {3, "bool", 1}, {4, "int", 1}, {5, "str", 1}, {6, "this", 0}, {7, "fun", 1}, {8, "local", 1},
		{9, "setlocal", 1}, {10, "global", 1}, {11, "setglobal", 1}, {12, "new", 0}, {13, "init", 2}, {14, "get", 2}, {15, "set", 2}, {16, "getix", 0},
		{17, "setix", 0}, {18, "del", 1}, {19, "delix", 0}, {20, "un", 1}, {21, "bin", 1}, {22, "jump", 1}, {23, "jumpnot", 1}, {24, "and", 1},
		{25, "or", 1}, {26, "call", 1}, {27, "meth", 2}, {28, "callm", 1}, {29, "built", 1}, {30, "print", 0}, {31, "pop", 0}, {32, "ret", 0},
	}
}

// rowNamed is the row of a name; its op is 0, if there is none.
func rowNamed(name string) row {
	for _, r := range table() {
		if r.name == name {
			return r
		}
	}
	return row{}
}

// modelPrint is the text of a program that is right.
func modelPrint(p api.Program) string {
	s := fmt.Sprintln("globals", p.Globals)
	for _, x := range p.Pool {
		s += fmt.Sprintln("pool", modelQuote(x))
	}
	lines := []string{s}
	for _, c := range p.Codes {
		lines = append(lines, fmt.Sprintln("code", c.Params, c.Locals, c.Sites, c.Deep))
		for _, in := range c.Ins {
			r := table()[in.Op-1]
			lines = append(lines, []string{
				fmt.Sprintln(r.name),
				fmt.Sprintln(r.name, in.A),
				fmt.Sprintln(r.name, in.A, in.B),
			}[r.numbers])
		}
	}
	return strings.Join(lines, "")
}

// modelQuote is a string as it is written.
func modelQuote(s string) string {
	w := ""
	for i := range len(s) {
		switch b := s[i]; {
		case b == '"' || b == '\\':
			w += `\` + string(rune(b))
		case b >= 32 && b < 127:
			w += string(rune(b))
		default:
			w += fmt.Sprintf(`\x%02x`, b)
		}
	}
	return `"` + w + `"`
}

// Numbers and strings, just as they are written: the pattern of a string leaves out the \x of those bytes that have no need of it.
var (
	digits      = `(0|-?[1-9][0-9]*)`
	globalsLine = regexp.MustCompile(`^globals ` + digits + `$`)
	codeLine    = regexp.MustCompile(`^code ` + digits + ` ` + digits + ` ` + digits + ` ` + digits + `$`)
	poolLine    = regexp.MustCompile(`^pool "((?:[ !#-\[\]-~]|\\["\\]|\\x(?:[0189a-f][0-9a-f]|7f))*)"$`)
	instrLine   = regexp.MustCompile(`^([a-z]+)(?: ` + digits + `)?(?: ` + digits + `)?$`)
	escape      = regexp.MustCompile(`\\(?:x..|.)`)
)

// modelNumbers are those of a line that a pattern has found, and whether all of them are from the least to the greatest.
func modelNumbers(found []string) ([]int, bool) {
	var list []int
	for _, s := range found {
		if s == "" {
			continue
		}
		n, _ := new(big.Int).SetString(s, 10)
		if n.Cmp(big.NewInt(leastInt)) < 0 || n.Cmp(big.NewInt(mostInt)) > 0 {
			return nil, false
		}
		list = append(list, int(n.Int64()))
	}
	return list, true
}

// modelString is what a string's inside stands for.
func modelString(inside string) string {
	return escape.ReplaceAllStringFunc(inside, func(s string) string {
		if len(s) == 2 {
			return s[1:]
		}
		var b byte
		fmt.Sscanf(s, `\x%02x`, &b)
		return string([]byte{b})
	})
}

// modelLine reads one line into the program, and tells whether it can stand there.
func modelLine(p *api.Program, first bool, line string) bool {
	if first {
		found := globalsLine.FindStringSubmatch(line)
		if found == nil {
			return false
		}
		n, ok := modelNumbers(found[1:])
		if ok {
			p.Globals = n[0]
		}
		return ok
	}
	if found := poolLine.FindStringSubmatch(line); found != nil && len(p.Codes) == 0 {
		p.Pool = append(p.Pool, modelString(found[1]))
		return true
	}
	if found := codeLine.FindStringSubmatch(line); found != nil {
		n, ok := modelNumbers(found[1:])
		if ok {
			p.Codes = append(p.Codes, api.Code{Params: n[0], Locals: n[1], Sites: n[2], Deep: n[3]})
		}
		return ok
	}
	found := instrLine.FindStringSubmatch(line)
	if found == nil || len(p.Codes) == 0 {
		return false
	}
	r := rowNamed(found[1])
	n, ok := modelNumbers(found[2:])
	if !ok || r.op == 0 || len(n) != r.numbers {
		return false
	}
	n = append(n, 0, 0)
	c := &p.Codes[len(p.Codes)-1]
	c.Ins = append(c.Ins, api.Instr{Op: r.op, A: n[0], B: n[1]})
	return true
}

// modelRead is what Read must tell.
func modelRead(s string) (api.Program, int, api.Errno) {
	lines := strings.SplitAfter(s, "\n")
	p := api.Program{}
	for i, line := range lines {
		// The last one is what is behind the last byte 10: the text's end, if it is empty.
		if line == "" && len(p.Codes) > 0 {
			break
		}
		inside, ended := strings.CutSuffix(line, "\n")
		if !ended || !modelLine(&p, i == 0, inside) {
			return api.Program{}, i + 1, api.ErrWord
		}
	}
	if code.Check(p) != api.OK {
		return api.Program{}, 0, api.ErrForm
	}
	return p, 0, api.OK
}
