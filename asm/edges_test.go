package asm_test

import (
	"fmt"
	"strings"
	"testing"

	"proteus/api"
	"proteus/code"
)

// P16.1, P16.2: as many strings as there may be, and one more.
func TestMostStrings(t *testing.T) {
	for _, n := range []int{1, 2, mostPool - 1, mostPool, mostPool + 1, mostPool + 2, 10 * mostPool} {
		p := lone(1, ins(api.PushNull), ins(api.Ret))
		if n <= mostPool {
			p.Codes[0].Ins[0] = ins(api.PushStr, n-1)
		}
		s := "globals 0\n"
		for i := range n {
			p.Pool = append(p.Pool, fmt.Sprint("string ", i))
			s += fmt.Sprintf("pool \"string %d\"\n", i)
		}
		s += "code 0 0 0 1\n"
		if n > mostPool {
			refused(t, fmt.Sprint(n, " strings"), s+"null\nret\n", 0, api.ErrForm)
			continue
		}
		both(t, fmt.Sprint(n, " strings"), p, s+fmt.Sprintf("str %d\nret\n", n-1))
	}
}

// P16.1, P16.2: as many codes as there may be, and one more.
func TestMostCodes(t *testing.T) {
	for _, n := range []int{1, 2, mostFns - 1, mostFns, mostFns + 1, 10 * mostFns} {
		var p api.Program
		s := "globals 0\n"
		for f := range n {
			p.Codes = append(p.Codes, api.Code{Sites: f, Deep: 1, Ins: []api.Instr{ins(api.PushInt, f), ins(api.Ret)}})
			s += fmt.Sprintf("code 0 0 %d 1\nint %d\nret\n", f, f)
		}
		if n > mostFns {
			refused(t, fmt.Sprint(n, " codes"), s, 0, api.ErrForm)
			continue
		}
		both(t, fmt.Sprint(n, " codes"), p, s)
	}
}

// P16.1, P16.2: as many instructions as a code may have, and one more, in the first one and in the last one.
func TestMostInstructions(t *testing.T) {
	for _, n := range []int{2, 3, mostIns - 1, mostIns, mostIns + 1, 10 * mostIns} {
		for f := range 2 {
			p := lone(1, ins(api.PushNull), ins(api.Ret))
			p.Codes = append(p.Codes, p.Codes[0])
			var list []api.Instr
			for i := range n - 2 {
				list = append(list, ins(api.Tick, 1+i%1000))
			}
			p.Codes[f].Ins = append(list, p.Codes[f].Ins...)
			if n <= mostIns {
				both(t, fmt.Sprint(n, " instructions"), p, modelPrint(p))
				continue
			}
			if code.Check(p) != api.ErrForm {
				t.Fatal("the test's own program is right")
			}
			refused(t, fmt.Sprint(n, " instructions"), modelPrint(p), 0, api.ErrForm)
		}
	}
}

// P16.1, P16.2: as much of all as there may be.
func TestGreatest(t *testing.T) {
	p := api.Program{Globals: mostVars}
	for i := range mostPool {
		p.Pool = append(p.Pool, strings.Repeat(string([]byte{byte(i)}), mostStr))
	}
	for f := range mostFns {
		c := api.Code{Params: mostParams, Locals: mostVars, Sites: mostIns, Deep: mostStack}
		if f == 0 {
			c.Params, c.Locals = 0, 0
		}
		for len(c.Ins) < mostIns-2 {
			c.Ins = append(c.Ins, ins(api.PushInt, leastInt), ins(api.Pop))
		}
		c.Ins = append(c.Ins, ins(api.PushInt, mostInt), ins(api.Ret))
		p.Codes = append(p.Codes, c)
	}
	both(t, "the greatest program", p, modelPrint(p))
}

// P16.1, P16.2: the numbers at their ends, as a code has them and as an instruction has them.
func TestNumbers(t *testing.T) {
	for _, n := range []int{leastInt, leastInt + 1, -1 << 61, -1 << 32, -1 << 31, -1000, -101, -100, -99, -11, -10, -9, -2, -1, 0, 1, 2, 9, 10, 11, 99, 100, 101, 1000, 1 << 31, 1 << 32, 1 << 61, mostInt - 1, mostInt} {
		line := "int " + digitsOf(n)
		both(t, line, lone(1, ins(api.PushInt, n), ins(api.Ret)), text("globals 0", "code 0 0 0 1", line, "ret"))
		// They can stand anywhere a number can, so that it is the program that is not right.
		for _, s := range []string{
			text("globals "+digitsOf(n), "code 0 0 0 1", "ret"),
			text("globals 0", "code "+digitsOf(n)+" 0 0 1", "ret"), text("globals 0", "code 0 "+digitsOf(n)+" 0 1", "ret"),
			text("globals 0", "code 0 0 "+digitsOf(n)+" 1", "ret"), text("globals 0", "code 0 0 0 "+digitsOf(n), "ret"),
			text("globals 0", "code 0 0 0 1", "tick "+digitsOf(n)), text("globals 0", "code 0 0 0 1", "meth "+digitsOf(n)+" 0"), text("globals 0", "code 0 0 0 1", "meth 0 "+digitsOf(n)),
		} {
			refused(t, s, s, 0, api.ErrForm)
		}
	}
	for _, n := range []string{"4611686018427387904", "-4611686018427387905", "9223372036854775808", "-9223372036854775809", "00", "-0", "01", "+1", "", "1 ", " 1", "1a"} {
		refused(t, n, text("globals "+n, "code 0 0 0 1", "ret"), 1, api.ErrWord)
		for _, line := range []string{"code " + n + " 0 0 1", "code 0 " + n + " 0 1", "code 0 0 " + n + " 1", "code 0 0 0 " + n} {
			refused(t, line, text("globals 0", line, "ret"), 2, api.ErrWord)
		}
		for _, line := range []string{"tick " + n, "meth " + n + " 0", "meth 0 " + n} {
			refused(t, line, text("globals 0", "code 0 0 0 1", line, "ret"), 3, api.ErrWord)
		}
	}
}

// P16.2: very long lines, and very many.
func TestVeryLong(t *testing.T) {
	const many = 1 << 20
	refused(t, "blanks", strings.Repeat(" ", many)+"\n", 1, api.ErrWord)
	refused(t, "line ends", strings.Repeat("\n", many), 1, api.ErrWord)
	refused(t, "no line's end", strings.Repeat("x", many), 1, api.ErrWord)
	refused(t, "digits", "globals "+strings.Repeat("9", many)+"\n", 1, api.ErrWord)
	refused(t, "zeros", "globals "+strings.Repeat("0", many)+"\n", 1, api.ErrWord)
	refused(t, "numbers", "globals 0\ncode"+strings.Repeat(" 0", many)+"\n", 2, api.ErrWord)
	refused(t, "a string's bytes", "globals 0\npool \""+strings.Repeat("x", many)+"\"\n", 3, api.ErrWord)
	refused(t, "a string without an end", "globals 0\npool \""+strings.Repeat("x", many)+"\n", 2, api.ErrWord)
	refused(t, "a string's bytes, then a code", "globals 0\npool \""+strings.Repeat("x", many)+"\"\ncode 0 0 0 1\nnull\nret\n", 0, api.ErrForm)
	refused(t, "strings", "globals 0\n"+strings.Repeat("pool \"\"\n", many), 2+many, api.ErrWord)
	refused(t, "codes", "globals 0\n"+strings.Repeat("code 0 0 0 1\n", many), 0, api.ErrForm)
	refused(t, "instructions", "globals 0\ncode 0 0 0 1\n"+strings.Repeat("null\n", many)+"ret\n", 0, api.ErrForm)
	refused(t, "instructions, then none", "globals 0\ncode 0 0 0 1\n"+strings.Repeat("null\n", many)+"ret 1\n", 3+many, api.ErrWord)
}
