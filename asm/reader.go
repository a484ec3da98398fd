package asm

import (
	"strconv"
	"strings"

	"proteus/api"
	"proteus/num"
	"proteus/text"
)

// reader makes a program of lines.
type reader struct {
	program api.Program
	next    func(line string) bool // reads the line that comes next, and tells whether it can stand there
}

func reading() *reader {
	r := &reader{}
	r.next = r.globals
	return r
}

// mayEnd asks whether there need not come one more line.
func (r *reader) mayEnd() bool { return len(r.program.Codes) > 0 }

// globals reads the first line of all.
func (r *reader) globals(line string) bool {
	words := wordsOf(line)
	r.next = r.poolOrCode
	return words[0] == globalsWord && fill(words[1:], &r.program.Globals)
}

// poolOrCode reads what may come up to the first code's line.
func (r *reader) poolOrCode(line string) bool {
	quoted, isPool := strings.CutPrefix(line, poolWord+" ")
	if isPool {
		return r.pool(quoted)
	}
	r.next = r.codeOrInstr
	return r.code(wordsOf(line))
}

// codeOrInstr reads what may come behind a code's line.
func (r *reader) codeOrInstr(line string) bool {
	words := wordsOf(line)
	return r.code(words) || r.instr(words)
}

// pool reads a string, which may have blanks of its own. It must be just as text.Quote writes it: text.Take reads others, too, and does not ask what is behind.
func (r *reader) pool(quoted string) bool {
	s, _, e := text.Take(quoted)
	if e != api.OK || text.Quote(s) != quoted {
		return false
	}
	r.program.Pool = append(r.program.Pool, s)
	return true
}

func (r *reader) code(words []string) bool {
	var c api.Code
	if words[0] != codeWord || !fill(words[1:], &c.Params, &c.Locals, &c.Sites, &c.Deep) {
		return false
	}
	r.program.Codes = append(r.program.Codes, c)
	return true
}

// instr reads one of the code whose line came last.
func (r *reader) instr(words []string) bool {
	op, known := named(words[0])
	if !known {
		return false
	}
	in := api.Instr{Op: op}
	both := [2]*int{&in.A, &in.B}
	if !fill(words[1:], both[:numbersOf(op)]...) {
		return false
	}
	c := &r.program.Codes[len(r.program.Codes)-1]
	c.Ins = append(c.Ins, in)
	return true
}

// mostWords is how many words the longest line has, but for a string's: those of a code.
const mostWords = 5

// wordsOf cuts a line at its blanks: there is always a first word, be it empty. Of a line with too many words the last one keeps the rest, so that a line of blanks alone makes no long list.
func wordsOf(line string) []string { return strings.SplitN(line, " ", mostWords+1) }

// fill reads a number for each place; false tells that there are more words or less, or that one is no number.
func fill(words []string, places ...*int) bool {
	if len(words) != len(places) {
		return false
	}
	for i, word := range words {
		n, ok := number(word)
		if !ok {
			return false
		}
		*places[i] = n
	}
	return true
}

// number is that of a word which is just as num.Digits writes it. (num.Read takes none below 0, and zeros ahead.)
func number(word string) (int, bool) {
	n, err := strconv.Atoi(word)
	if err != nil || n < num.Least || n > num.Most || num.Digits(n) != word {
		return 0, false
	}
	return n, true
}
