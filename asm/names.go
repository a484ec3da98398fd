package asm

import (
	"slices"

	"proteus/api"
)

// The words with which those lines begin that are no instructions.
const (
	globalsWord = "globals"
	poolWord    = "pool"
	codeWord    = "code"
)

// names are the instructions' names, each at its own place.
func names() [api.Ret + 1]string {
	return [...]string{
		api.Tick:      "tick",
		api.PushNull:  "null",
		api.PushBool:  "bool",
		api.PushInt:   "int",
		api.PushStr:   "str",
		api.PushThis:  "this",
		api.PushFun:   "fun",
		api.GetLocal:  "local",
		api.SetLocal:  "setlocal",
		api.GetGlobal: "global",
		api.SetGlobal: "setglobal",
		api.NewObj:    "new",
		api.Init:      "init",
		api.Get:       "get",
		api.Set:       "set",
		api.GetIx:     "getix",
		api.SetIx:     "setix",
		api.Del:       "del",
		api.DelIx:     "delix",
		api.Un:        "un",
		api.Bin:       "bin",
		api.Jump:      "jump",
		api.JumpNot:   "jumpnot",
		api.KeepAnd:   "and",
		api.KeepOr:    "or",
		api.Call:      "call",
		api.Meth:      "meth",
		api.CallM:     "callm",
		api.Built:     "built",
		api.Print:     "print",
		api.Pop:       "pop",
		api.Ret:       "ret",
	}
}

// named is the instruction of a name. Place 0 has no name, and so the empty word none either.
func named(word string) (int, bool) {
	each := names()
	op := slices.Index(each[:], word)
	if op < api.Tick {
		return 0, false
	}
	return op, true
}

// numbersOf is how many numbers stand behind an instruction's name: none, that of A, or those of A and B.
func numbersOf(op int) int {
	switch op {
	case api.PushNull, api.PushThis, api.NewObj, api.GetIx, api.SetIx, api.DelIx, api.Print, api.Pop, api.Ret:
		return 0
	case api.Init, api.Get, api.Set, api.Meth:
		return 2
	}
	return 1
}
