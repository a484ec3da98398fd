package asm

import (
	"strings"

	"proteus/api"
	"proteus/num"
	"proteus/text"
)

// writer writes a program that is right, line by line.
type writer struct{ out strings.Builder }

func (w *writer) program(p api.Program) {
	w.numbers(globalsWord, p.Globals)
	for _, s := range p.Pool {
		w.line(poolWord, text.Quote(s))
	}
	for _, c := range p.Codes {
		w.numbers(codeWord, c.Params, c.Locals, c.Sites, c.Deep)
		for _, in := range c.Ins {
			both := [2]int{in.A, in.B}
			w.numbers(Name(in.Op), both[:numbersOf(in.Op)]...)
		}
	}
}

// numbers writes a line of a word and numbers.
func (w *writer) numbers(first string, list ...int) {
	var digits []string
	for _, n := range list {
		digits = append(digits, num.Digits(n))
	}
	w.line(first, digits...)
}

// line writes words with one blank between.
func (w *writer) line(first string, others ...string) {
	w.out.WriteString(first)
	for _, word := range others {
		w.out.WriteByte(' ')
		w.out.WriteString(word)
	}
	w.out.WriteByte('\n')
}
