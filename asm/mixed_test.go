package asm_test

import (
	"strings"
	"testing"

	"proteus/api"
	"proteus/asm"
	"proteus/code"
	"proteus/compile"
	"proteus/parse"
	"proteus/scope"
)

// dice are numbers that look mixed, the same ones each time.
type dice uint64

func (d *dice) below(n int) int {
	*d = *d*6364136223846793005 + 1442695040888963407
	return int(uint64(*d) >> 33 % uint64(n))
}

// grower makes programs that are right.
type grower struct {
	dice
	p api.Program
	c *api.Code
}

func (g *grower) lay(op int, ab ...int) { g.c.Ins = append(g.c.Ins, ins(op, ab...)) }

// numbers are some that an instruction may have.
func (g *grower) numbers(op int) (int, int) {
	spans := map[int][2]int{
		api.Tick: {1, 1000}, api.PushBool: {0, 1}, api.PushFun: {0, len(g.p.Codes) - 1}, api.GetLocal: {0, g.c.Locals - 1}, api.SetLocal: {0, g.c.Locals - 1},
		api.GetGlobal: {0, g.p.Globals - 1}, api.SetGlobal: {0, g.p.Globals - 1}, api.PushStr: {0, len(g.p.Pool) - 1}, api.Del: {0, len(g.p.Pool) - 1},
		api.Init: {0, len(g.p.Pool) - 1}, api.Get: {0, len(g.p.Pool) - 1}, api.Set: {0, len(g.p.Pool) - 1}, api.Meth: {0, len(g.p.Pool) - 1},
		api.Un: {1, 2}, api.Bin: {1, 11}, api.Call: {0, 6}, api.CallM: {0, 6}, api.Built: {1, 7},
	}
	s := spans[op]
	a, b := s[0]+g.below(s[1]-s[0]+1), 0
	if op == api.PushInt {
		a = []int{leastInt, -12, -1, 0, 1, 345, mostInt}[g.below(7)]
	}
	if rowNamed(asm.Name(op)).numbers == 2 {
		b = g.below(g.c.Sites)
	}
	return a, b
}

// deed lays some instruction with all that it takes, and takes all that it lays.
func (g *grower) deed(ticks []int) {
	op := 1 + g.below(32)
	if g.c.Locals == 0 && (op == api.GetLocal || op == api.SetLocal) {
		op = api.PushThis
	}
	here := len(g.c.Ins)
	switch op {
	case api.Jump:
		g.lay(op, here+1)
	case api.JumpNot:
		g.lay(api.PushNull)
		g.lay(op, ticks[g.below(len(ticks))])
	case api.KeepAnd, api.KeepOr:
		g.lay(api.PushNull)
		g.lay(op, here+3)
		g.lay(api.PushNull)
		g.lay(api.Pop)
	default:
		a, b := g.numbers(op)
		pops, pushes := code.Effect(ins(op, a, b))
		for range pops {
			g.lay(api.PushThis)
		}
		g.lay(op, a, b)
		for range pushes {
			g.lay(api.Pop)
		}
	}
}

// bytes are a string of some.
func (g *grower) bytes() string {
	var b strings.Builder
	for range g.below(12) {
		b.WriteByte([]byte{0, 10, 13, 32, 34, 48, 65, 92, 97, 120, 126, 127, 128, 255}[g.below(14)])
	}
	return b.String()
}

// grown is a program that is right.
func grown(seed int) api.Program {
	g := &grower{dice: dice(seed)}
	g.below(2)
	g.p = api.Program{Globals: 1 + g.below(mostVars), Codes: make([]api.Code, 1+g.below(4))}
	for range 1 + g.below(5) {
		g.p.Pool = append(g.p.Pool, g.bytes())
	}
	for f := range g.p.Codes {
		g.c = &g.p.Codes[f]
		g.c.Sites, g.c.Deep = 1+g.below(9), 9+g.below(mostStack-8)
		if f > 0 {
			g.c.Params = g.below(mostParams + 1)
			g.c.Locals = g.c.Params + g.below(9)
		}
		var ticks []int
		for range 1 + g.below(6) {
			ticks = append(ticks, len(g.c.Ins))
			g.lay(api.Tick, 1+g.below(1000))
			g.deed(ticks)
		}
		g.lay(api.PushNull)
		g.lay(api.Ret)
	}
	return g.p
}

// agree holds Read of a text against the model; what is read is printed just so.
func agree(t *testing.T, s string) bool {
	t.Helper()
	want, wantAt, wantErr := modelRead(s)
	got, at, e := asm.Read(s)
	if e != wantErr || at != wantAt || !code.Same(got, want) {
		t.Fatalf("Read told %v, %d, %d, not %v, %d, %d, of\n%q", got, at, e, want, wantAt, wantErr, s)
	}
	if e != api.OK {
		return false
	}
	if again, e := asm.Print(got); again != s || e != api.OK {
		t.Fatalf("Print told %d, and %q, of what was read of\n%q", e, again, s)
	}
	return true
}

// P16.3: Read of Print of a right program is it; and Print is as the model says.
func TestGrown(t *testing.T) {
	seen := map[int]int{}
	for seed := range 1000 {
		p := grown(seed)
		if code.Check(p) != api.OK {
			t.Fatal("the test's own program is not right:", p)
		}
		s := modelPrint(p)
		both(t, "a grown one", p, s)
		if !agree(t, s) {
			t.Fatalf("the model does not read %q", s)
		}
		for _, c := range p.Codes {
			for _, in := range c.Ins {
				seen[in.Op]++
			}
		}
	}
	for _, r := range table() {
		if seen[r.op] < 20 {
			t.Errorf("%s came up %d times", r.name, seen[r.op])
		}
	}
}

// P16.3: programs that texts of the language become.
func TestCompiled(t *testing.T) {
	for _, source := range []string{
		"", "print 1 + 2;", "let f = fn(a) { return a * 2; }; return f(21);",
		"let p = {x: 1}; let o = setproto({}, p); print o.x; p.x = 2; print o.x;",
		`let o = {a: 1, b: 2}; delete o.a; o.a = 3; print key(o, 0); delete o["b"]; o["\x00"] = "\xff\"\\"; print o["\x0a"];`,
		"while (true) {}", "let a = 1 && 2 || !3; if (a < -4) { print this; } else { a.b(null, fn() { let c = 5; c = 6; }); }",
	} {
		n, at, e := parse.Parse(source)
		if e != api.OK {
			t.Fatal("the test's own text:", source, at, e)
		}
		u, _, _ := scope.Resolve(n)
		p, e := compile.Unit(u)
		if e != api.OK {
			t.Fatal("the test's own text:", source, e)
		}
		both(t, source, p, modelPrint(p))
	}
}

// P16.2, P16.3: all texts of up to six lines out of a few.
func TestAllShortTexts(t *testing.T) {
	few := []string{"globals 0", `pool "a"`, "code 0 0 1 1", "code 0 0 1 2", "null", "get 0 0", "ret", ""}
	right := 0
	lines := make([]string, 0, 6)
	var each func(left int)
	each = func(left int) {
		if agree(t, strings.Join(lines, "\n")) {
			right++
		}
		if left == 0 {
			return
		}
		for _, line := range few {
			lines = append(lines, line)
			each(left - 1)
			lines = lines[:len(lines)-1]
		}
	}
	each(6)
	if right < 5 {
		t.Errorf("only %d of them are right", right)
	}
}

// spoil changes a text at one place; every third time by another digit alone, so that its form is kept.
func (d *dice) spoil(s string) string {
	if d.below(3) == 0 {
		from := d.below(len(s) + 1)
		if at := strings.IndexAny(s[from:], "0123456789"); at >= 0 {
			return s[:from+at] + digitsOf(d.below(10)) + s[from+at+1:]
		}
	}
	at := d.below(len(s) + 1)
	end := min(len(s), at+d.below(3))
	bits := []string{"", " ", "  ", "\n", "\n\n", "0", "1", "-", "+", "9", "a", "x", `"`, `\`, `\x41`, `\x0a`, `\x0A`, "\x00", "\xff", "\r", "t", "ret\n", "null\n", "code 0 0 0 1\n", "pool \"\"\n", "globals 0\n", " 0", " 0 0", "4611686018427387904", "-4611686018427387904"}
	return s[:at] + bits[d.below(len(bits))] + s[end:]
}

// P16.2, P16.3: texts of right programs, changed at up to three places.
func TestSpoilt(t *testing.T) {
	d := dice(16)
	right, told := 0, map[api.Errno]int{}
	for seed := range 4000 {
		s := modelPrint(grown(seed % 500))
		if seed%3 == 0 {
			s = text(sample()...)
		}
		for range 1 + d.below(3) {
			s = d.spoil(s)
			if agree(t, s) {
				right++
			}
			_, _, e := asm.Read(s)
			told[e]++
		}
	}
	if right < 50 || told[api.ErrWord] < 500 || told[api.ErrForm] < 50 {
		t.Errorf("%d were read, and these told: %v", right, told)
	}
}

// P16.2: lines taken out, doubled, and put elsewhere.
func TestLinesMoved(t *testing.T) {
	d := dice(61)
	for seed := range 2000 {
		lines := strings.SplitAfter(modelPrint(grown(seed%500)), "\n")
		for range 1 + d.below(2) {
			a, b := d.below(len(lines)), d.below(len(lines))
			switch d.below(3) {
			case 0:
				lines[a], lines[b] = lines[b], lines[a]
			case 1:
				lines[a] = ""
			default:
				lines[a] += lines[b]
			}
		}
		agree(t, strings.Join(lines, ""))
	}
}
