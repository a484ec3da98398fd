package asm_test

import (
	"slices"
	"strings"
	"testing"

	"proteus/api"
	"proteus/asm"
	"proteus/code"
)

// sample is a right program's lines, with one of each kind.
func sample() []string {
	return []string{
		"globals 2",    // 1
		`pool "a b"`,   // 2
		`pool ""`,      // 3
		"code 0 0 2 2", // 4
		"tick 3",       // 5
		"new",          // 6
		"int -5",       // 7
		"init 1 1",     // 8
		"setglobal 1",  // 9
		"fun 1",        // 10
		"call 0",       // 11
		"ret",          // 12
		"code 1 2 0 1", // 13
		"local 0",      // 14
		"ret",          // 15
	}
}

// badLines can stand nowhere.
func badLines() []string {
	return []string{
		"", " ", "  ", " 0", " 5", " 0 0", " 0 0 0 1", "  0", "0 0", "5", "\t", "\r", "\x00", "0", "-", "\"", `""`, `"a"`, "what", "tick", "Ret", "RET", "re", "rett", "ret ", " ret", "ret 0", "ret  ", "ret\r", "ret\t", "ret\x00", "\xef\xbb\xbfret",
		"null 0", "null 1", "this 0", "new 0", "getix 0", "setix 0", "delix 0", "print 0", "pop 0", "ret -1", "pop a", "print \"\"",
		"tick ", "tick  3", "tick 3 ", " tick 3", "tick 3 0", "tick 3 3", "tick\t3", "tick3", "tick a", "tick 3a", "tick 3,", "tick \"3\"", "TICK 3", "Tick 3", "tick 3\r",
		"bool", "bool true", "bool 0 0", "int", "int 1 2", "str", "str \"a\"", "fun", "local", "setlocal", "global", "setglobal", "del", "un", "bin", "jump", "jumpnot", "and", "or", "call", "callm", "built",
		"str 0 0", "fun 0 0", "local 0 0", "setlocal 0 0", "global 0 0", "setglobal 0 0", "del 0 0", "un 1 0", "bin 1 0", "jump 0 0", "jumpnot 0 0", "and 0 0", "or 0 0", "call 0 0", "callm 0 0", "built 1 0",
		"init", "init ", "init 0", "init 0 ", "init  0 0", "init 0  0", "init 0 0 ", "init 0 0 0", "init 0 a", "init a 0", "get", "get 0", "get 0 0 0", "set", "set 0", "set 0 0 0", "meth", "meth 0", "meth 0 0 0", "meth 0 0 0 0 0 0 0 0",
		"int 00", "int 01", "int 007", "int +1", "int +0", "int -0", "int -00", "int -01", "int --1", "int - 1", "int -", "int +", "int 1-", "int 1.0", "int 1e3", "int 0x1", "int 0b1", "int 0o7", "int 1_000", "int _1", "int Inf",
		"int 4611686018427387904", "int -4611686018427387905", "int 9223372036854775807", "int 9223372036854775808", "int -9223372036854775808", "int -9223372036854775809",
		"int 18446744073709551616", "int 18446744073709551617", "int 99999999999999999999999999", "int -99999999999999999999999999", "int \u0661", "int 1\x00", "int \uff11",
		"globals", "globals ", "globals 0 ", " globals 0", "globals  0", "globals 0 0", "globals a", "globals 00", "globals +0", "globals -0", "globals \"\"", "global", "globals 4611686018427387904", "Globals 0", "globals\t0",
		"code", "code ", "code 0", "code 0 0", "code 0 0 0", "code 0 0 0 ", "code 0 0 0 1 ", " code 0 0 0 1", "code  0 0 0 1", "code 0  0 0 1", "code 0 0  0 1", "code 0 0 0  1", "code 0 0 0 1 0", "code 0 0 0 1 0 0", "code 0 0 0 1 x",
		"code 00 0 0 1", "code 0 00 0 1", "code 0 0 00 1", "code 0 0 0 01", "code -0 0 0 1", "code 0 +0 0 1", "code 0 0 x 1", "code 0 0 0 x", "code 4611686018427387904 0 0 1", "code 0 0 0 4611686018427387904", "Code 0 0 0 1", "codes 0 0 0 1", "code0 0 0 1",
		"pool", "pool ", "pool a", "pool 0", "pool \"", "pool  \"\"", " pool \"\"", "pool \"\" ", "pool \"\" \"\"", "pool \"\"\"", "pool \"a", "pool a\"", "pool \"a\"b", "pool \"a\" b", "pool \"a\"\"", "pool\"\"", "Pool \"\"", "pools \"\"", "pool\t\"\"", "pool \"a\"\r",
		`pool "\x41"`, `pool "\x20"`, `pool "\x7e"`, `pool "\x22"`, `pool "\x5c"`, `pool "\x0A"`, `pool "\xFF"`, `pool "\xfF"`, `pool "a\x41"`, `pool "\n"`, `pool "\q"`, `pool "\x"`, `pool "\x0"`, `pool "\x0g"`, `pool "\"`, `pool "\\\"`, `pool '\x00'`, `pool "\'"`,
		"pool \"\x00\"", "pool \"\x7f\"", "pool \"\xff\"", "pool \"\t\"", "pool \"\r\"", "pool \"\u00e9\"",
		"; a remark", "# a remark", "ret ; a remark", "ret;", "label:", "end", "fn", "function 1", "jump there", "pushnull", "getlocal 0", "keepand 0", "halt",
	}
}

// P16.2: a line that can stand nowhere, in each line's place, and between each two: its number is told, and the lines behind it do not matter.
func TestBadLine(t *testing.T) {
	for _, bad := range badLines() {
		for at := range sample() {
			there := sample()
			there[at] = bad
			refused(t, bad, text(there...), at+1, api.ErrWord)
			refused(t, bad+" put between", text(slices.Insert(sample(), at, bad)...), at+1, api.ErrWord)
			refused(t, bad+" and others behind", text(append(there, "what", bad)...), at+1, api.ErrWord)
		}
		refused(t, bad+" behind all", text(append(sample(), bad)...), len(sample())+1, api.ErrWord)
	}
}

// P16.2: the sample itself.
func TestSample(t *testing.T) {
	want := api.Program{
		Globals: 2,
		Pool:    []string{"a b", ""},
		Codes: []api.Code{
			{Sites: 2, Deep: 2, Ins: []api.Instr{
				ins(api.Tick, 3), ins(api.NewObj), ins(api.PushInt, -5), ins(api.Init, 1, 1), ins(api.SetGlobal, 1), ins(api.PushFun, 1), ins(api.Call, 0), ins(api.Ret),
			}},
			{Params: 1, Locals: 2, Deep: 1, Ins: []api.Instr{ins(api.GetLocal, 0), ins(api.Ret)}},
		},
	}
	both(t, "the sample", want, text(sample()...))
}

// P16.2: lines of one kind where those of another kind must come. (Each of them can stand somewhere.)
func TestLineOfOtherKind(t *testing.T) {
	instr := []string{"ret", "null", "tick 1", "tick 0", "int -5", "init 0 0", "global 0", "jump -99"}
	codes := []string{"code 0 0 0 1", "code 9 9 9 9", "code -1 -1 -1 -1"}
	pools := []string{`pool ""`, `pool "a"`}
	globals := []string{"globals 0", "globals 2", "globals -1"}
	for at, line := range sample() {
		var wrong []string
		switch {
		case at == 0:
			wrong = slices.Concat(instr, codes, pools)
		case at < 4:
			wrong = slices.Concat(instr, globals)
		default:
			wrong = slices.Concat(pools, globals)
		}
		for _, bad := range wrong {
			refused(t, bad+" ahead of "+line, text(slices.Insert(sample(), at, bad)...), at+1, api.ErrWord)
		}
	}
	for _, bad := range slices.Concat(pools, globals) {
		refused(t, bad+" behind all", text(append(sample(), bad)...), 16, api.ErrWord)
		refused(t, bad+" behind a code line alone", text("globals 0", "code 0 0 0 1", bad), 3, api.ErrWord)
	}
	for _, bad := range slices.Concat(instr, globals) {
		refused(t, bad+" behind the globals alone", text("globals 0", bad), 2, api.ErrWord)
		refused(t, bad+" behind a string", text("globals 0", `pool ""`, bad, "code 0 0 0 1", "null", "ret"), 3, api.ErrWord)
	}
}

// P16.2: a text that ends ahead of the first code line.
func TestEndsTooEarly(t *testing.T) {
	refused(t, "the empty text", "", 1, api.ErrWord)
	refused(t, "a line's end", "\n", 1, api.ErrWord)
	refused(t, "line ends", "\n\n\n", 1, api.ErrWord)
	refused(t, "the globals", "globals 0\n", 2, api.ErrWord)
	refused(t, "the globals, and an empty line", "globals 0\n\n", 2, api.ErrWord)
	refused(t, "too many globals", "globals 99\n", 2, api.ErrWord)
	s := "globals 0\n"
	for n := range 2 * mostPool {
		s += "pool \"\"\n"
		refused(t, "strings", s, n+3, api.ErrWord)
	}
}

// P16.2: a last line without a byte 10, though it be right otherwise; and each beginning of a text.
func TestEachBeginning(t *testing.T) {
	whole := text(sample()...)
	for n := range len(whole) {
		s := whole[:n]
		lines := strings.Count(s, "\n")
		switch {
		case s == "" || !strings.HasSuffix(s, "\n"), lines < 4:
			refused(t, s, s, lines+1, api.ErrWord)
		default:
			// A code without its end, or the call of a code that does not come.
			refused(t, s, s, 0, api.ErrForm)
		}
	}
	small := "globals 0\ncode 0 0 0 1\nnull\nret"
	refused(t, "no byte 10", small, 4, api.ErrWord)
	refused(t, "a byte 13 ahead of it", small+"\r\n", 4, api.ErrWord)
	refused(t, "two bytes 10", small+"\n\n", 5, api.ErrWord)
	refused(t, "a blank behind all", small+"\n ", 5, api.ErrWord)
	refused(t, "a byte 0 behind all", small+"\n\x00", 5, api.ErrWord)
	reads(t, "one byte 10", small+"\n", lone(1, ins(api.PushNull), ins(api.Ret)))
}

// P16.2: all lines can stand there, but the program is not right.
func TestForm(t *testing.T) {
	for what, s := range map[string]string{
		"a code without instructions": text("globals 0", "code 0 0 0 1"),
		"two without instructions":    text("globals 0", "code 0 0 0 1", "code 0 0 0 1"),
		"the second one without":      text("globals 0", "code 0 0 0 1", "null", "ret", "code 0 0 0 1"),
		"globals below 0":             text("globals -1", "code 0 0 0 1", "null", "ret"),
		"too many globals":            text("globals 25", "code 0 0 0 1", "null", "ret"),
		"the least globals":           text("globals -4611686018427387904", "code 0 0 0 1", "null", "ret"),
		"the most globals":            text("globals 4611686018427387903", "code 0 0 0 1", "null", "ret"),
		"too long a string":           text("globals 0", `pool "`+strings.Repeat("x", mostStr+1)+`"`, "code 0 0 0 1", "null", "ret"),
		"parameters of the whole":     text("globals 0", "code 1 1 0 1", "null", "ret"),
		"locals of the whole":         text("globals 0", "code 0 1 0 1", "null", "ret"),
		"a code's least numbers":      text("globals 0", "code -4611686018427387904 -4611686018427387904 -4611686018427387904 -4611686018427387904", "null", "ret"),
		"a code's most numbers":       text("globals 0", "code 4611686018427387903 4611686018427387903 4611686018427387903 4611686018427387903", "null", "ret"),
		"no room":                     text("globals 0", "code 0 0 0 0", "null", "ret"),
		"too few locals":              text("globals 0", "code 0 0 0 1", "null", "ret", "code 2 1 0 1", "null", "ret"),
		"a Ret of nothing":            text("globals 0", "code 0 0 0 1", "ret"),
		"no Ret":                      text("globals 0", "code 0 0 0 1", "null"),
		"a Tick of 0":                 text("globals 0", "code 0 0 0 1", "tick 0", "null", "ret"),
		"a Tick of -1":                text("globals 0", "code 0 0 0 1", "tick -1", "null", "ret"),
		"a Tick of 1001":              text("globals 0", "code 0 0 0 1", "tick 1001", "null", "ret"),
		"a Tick of the most":          text("globals 0", "code 0 0 0 1", "tick 4611686018427387903", "null", "ret"),
		"a Bool of 2":                 text("globals 0", "code 0 0 0 1", "bool 2", "ret"),
		"a string that there is not":  text("globals 0", "code 0 0 0 1", "str 0", "ret"),
		"a code that there is not":    text("globals 0", "code 0 0 0 1", "fun 1", "ret"),
		"a local that there is not":   text("globals 0", "code 0 0 0 1", "local 0", "ret"),
		"a global that there is not":  text("globals 1", "code 0 0 0 1", "global 1", "ret"),
		"a site that there is not":    text("globals 0", `pool "a"`, "code 0 0 1 1", "null", "get 0 1", "ret"),
		"a sign that there is not":    text("globals 0", "code 0 0 0 1", "null", "un 3", "ret"),
		"a place that there is not":   text("globals 0", "code 0 0 0 1", "jump 3", "null", "ret"),
		"a jump back to no Tick":      text("globals 0", "code 0 0 0 1", "null", "ret", "jump 0"),
	} {
		refused(t, what, s, 0, api.ErrForm)
	}
}

// P16.2: a line that can't stand there counts ahead of a program that is not right.
func TestLineAheadOfForm(t *testing.T) {
	refused(t, "behind a wrong code", text("globals 99", "code 1 1 1 1", "ret", "what"), 4, api.ErrWord)
	refused(t, "behind too many codes", "globals 0\n"+strings.Repeat("code 0 0 0 1\n", 2*mostFns)+"pool \"\"\n", 2+2*mostFns, api.ErrWord)
	refused(t, "behind too many instructions", "globals 0\ncode 0 0 0 1\n"+strings.Repeat("null\n", 2*mostIns)+"ret", 3+2*mostIns, api.ErrWord)
	refused(t, "behind too many strings", "globals 0\n"+strings.Repeat("pool \"\"\n", 2*mostPool)+"null\n", 2+2*mostPool, api.ErrWord)
	refused(t, "behind too long a string", text("globals 0", `pool "`+strings.Repeat("x", mostStr+1)+`"`, "ret"), 3, api.ErrWord)
	refused(t, "of several the first", text("globals 0", "code 0 0 0", "what", "null 1", "ret"), 2, api.ErrWord)
}

// P16.2: what was answered is the caller's own, and a text hangs on nothing that was read ahead of it.
func TestReadAgain(t *testing.T) {
	s := text(sample()...)
	first, _, _ := asm.Read(s)
	want, _, _ := asm.Read(s)
	for i := range first.Pool {
		first.Pool[i] = "spoilt"
	}
	for f := range first.Codes {
		for at := range first.Codes[f].Ins {
			first.Codes[f].Ins[at] = ins(99, 99, 99)
		}
		first.Codes[f].Ins = append(first.Codes[f].Ins, ins(98))
	}
	for _, bad := range []string{"", "globals 9\n", "globals 9\npool \"z\"\nwhat\n", "globals 9\ncode 9 9 9 9\nnull\n"} {
		asm.Read(bad)
		got, at, e := asm.Read(s)
		if e != api.OK || at != 0 || !code.Same(got, want) || got.Globals != 2 {
			t.Errorf("behind %q: %v, %d, %d", bad, got, at, e)
		}
	}
}

// Nothing that is appended to one list of an answer comes up in another one of it.
func TestListsApart(t *testing.T) {
	p, _, _ := asm.Read(text(sample()...))
	long := len(p.Codes[0].Ins)
	_ = append(p.Codes[0].Ins, ins(99))
	_ = append(p.Pool, "spoilt")
	again, _, _ := asm.Read(text(sample()...))
	if !code.Same(p, again) || len(p.Codes[0].Ins) != long {
		t.Error("the lists of one answer share something")
	}
}
