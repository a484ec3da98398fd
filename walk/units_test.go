package walk_test

import (
	"slices"
	"strconv"
	"strings"
	"testing"

	"proteus/api"
	"proteus/parse"
	"proteus/scope"
	"proteus/walk"
)

// Limits and bounds as the document says them, by their numbers.
const (
	maxFuel    = 1 << 20
	maxObjects = 200
	maxCalls   = 50
	maxProps   = 32
	maxStr     = 256
	least      = -1 << 62
	most       = 1<<62 - 1
)

// greatest are limits that nothing of a small program comes to.
var greatest = api.Limits{Objects: maxObjects, Depth: maxCalls, Props: maxProps, Str: maxStr}

// node is one of a kind with these Kids.
func node(kind int, kids ...api.Node) api.Node { return api.Node{Kind: kind, Kids: kids} }

// signed is one with a sign, or a built-in call.
func signed(kind, op int, kids ...api.Node) api.Node {
	return api.Node{Kind: kind, Op: op, Kids: kids}
}

// named is one of a property, or a string.
func named(kind int, s string, kids ...api.Node) api.Node {
	return api.Node{Kind: kind, S: s, Kids: kids}
}

// numbered is one of a number.
func numbered(kind, n int, kids ...api.Node) api.Node {
	return api.Node{Kind: kind, N: n, Kids: kids}
}

func whole(n int) api.Node          { return numbered(api.EInt, n) }
func quoted(s string) api.Node      { return named(api.EStr, s) }
func local(n int) api.Node          { return numbered(api.ELocal, n) }
func global(n int) api.Node         { return numbered(api.EGlobal, n) }
func fun(n int) api.Node            { return numbered(api.EFun, n) }
func show(n api.Node) api.Node      { return node(api.SPrint, n) }
func answer(n api.Node) api.Node    { return node(api.SReturn, n) }
func block(l ...api.Node) api.Node  { return node(api.SBlock, l...) }
func sum(a, b api.Node) api.Node    { return signed(api.EBin, api.Add, a, b) }
func body(l ...api.Node) []api.Node { return l }

// program is a unit of a function 0 and others.
func program(globals int, first []api.Node, others ...api.Fn) api.Unit {
	return api.Unit{Globals: globals, Fns: append([]api.Fn{{Body: first}}, others...)}
}

// load is the unit of a text.
func load(t *testing.T, src string) api.Unit {
	t.Helper()
	n, at, e := parse.Parse(src)
	if e != api.OK {
		t.Fatalf("%s is no program: %v at %d", src, e, at)
	}
	u, at, e := scope.Resolve(n)
	if e != api.OK {
		t.Fatalf("%s can't be resolved: %v at %d", src, e, at)
	}
	return u
}

// told is an outcome in one line: its kind, its last value or its error, what was printed, and the steps.
func told(o api.Outcome, steps int) string {
	kind := "kind " + strconv.Itoa(o.Kind)
	switch o.Kind {
	case api.Done:
		kind = "done " + o.V
	case api.Failed:
		kind = "failed"
	case api.FuelOut:
		kind = "fuel"
	case api.LimitHit:
		kind = "limit"
	}
	if o.Kind != api.Done && o.V != "" {
		kind += " with " + o.V
	}
	if o.Err != 0 {
		kind += " " + strconv.Itoa(int(o.Err))
	}
	if o.At != 0 {
		kind += " at " + strconv.Itoa(o.At)
	}
	return kind + " [" + strings.Join(o.Out, ",") + "] " + strconv.Itoa(steps)
}

// same asks whether two outcomes are alike in all fields.
func same(a, b api.Outcome) bool {
	return a.Kind == b.Kind && a.Err == b.Err && a.At == b.At && a.V == b.V && slices.Equal(a.Out, b.Out)
}

// run runs a unit twice, and asks that both come to the same, and that the unit stays as it is.
func run(t *testing.T, u api.Unit, fuel int, l api.Limits) (api.Outcome, int) {
	t.Helper()
	mine, before := spare(u), spare(u)
	o, n := walk.Run(mine, fuel, l)
	p, m := walk.Run(u, fuel, l)
	if !same(o, p) || n != m {
		t.Fatalf("one unit comes to %s and to %s", told(o, n), told(p, m))
	}
	if !alike(mine, before) {
		t.Fatal("the unit has changed")
	}
	return o, n
}

// spare is a unit anew, with room behind each list, and something in it.
func spare(u api.Unit) api.Unit {
	fns := make([]api.Fn, 0, len(u.Fns)+1)
	for _, f := range u.Fns {
		f.Body = spareNodes(f.Body)
		fns = append(fns, f)
	}
	u.Fns = append(fns, api.Fn{Params: -9})[:len(fns)]
	return u
}

func spareNodes(l []api.Node) []api.Node {
	out := make([]api.Node, 0, len(l)+1)
	for _, n := range l {
		n.Kids = spareNodes(n.Kids)
		n.Names = append(append(make([]string, 0, len(n.Names)+1), n.Names...), "room")[:len(n.Names)]
		out = append(out, n)
	}
	return append(out, api.Node{Kind: -9})[:len(out)]
}

// alike asks whether two of those are alike, with what is in the room behind the lists.
func alike(a, b api.Unit) bool {
	same := func(f, g api.Fn) bool {
		return f.Params == g.Params && f.Locals == g.Locals && alikeNodes(f.Body, g.Body)
	}
	return a.Globals == b.Globals && len(a.Fns) == len(b.Fns) && slices.EqualFunc(a.Fns, b.Fns, same) && a.Fns[:len(a.Fns)+1][len(a.Fns)].Params == -9
}

func alikeNodes(a, b []api.Node) bool {
	same := func(m, n api.Node) bool {
		names := slices.Equal(m.Names[:len(m.Names)+1], n.Names[:len(n.Names)+1])
		return m.Kind == n.Kind && m.Op == n.Op && m.N == n.N && m.S == n.S && m.At == n.At && names && alikeNodes(m.Kids, n.Kids)
	}
	return len(a) == len(b) && slices.EqualFunc(a, b, same) && a[:len(a)+1][len(a)].Kind == -9
}

// row is a text, and what it comes to.
type row struct{ src, want string }

// hold asks it of texts, with as much of all as there may be.
func hold(t *testing.T, rows []row) {
	t.Helper()
	for _, x := range rows {
		holdWith(t, x, greatest)
	}
}

// holdWith asks it with other limits; and with just the fuel that it takes, and with one step less.
func holdWith(t *testing.T, x row, l api.Limits) {
	t.Helper()
	u := load(t, x.src)
	o, n := holdModel(t, u, maxFuel, l)
	if got := told(o, n); got != x.want {
		t.Errorf("%s\ncomes to %s\nnot to   %s", x.src, got, x.want)
	}
	holdFuel(t, u, l, o, n)
}

// holdFuel asks what becomes of a run that came to o in n steps, with fuel around that.
func holdFuel(t *testing.T, u api.Unit, l api.Limits, o api.Outcome, n int) {
	t.Helper()
	if o.Kind == api.FuelOut {
		return
	}
	for _, fuel := range []int{n, n + 1, maxFuel + 1} {
		if p, m := walk.Run(u, fuel, l); !same(o, p) || m != n {
			t.Errorf("fuel %d comes to %s, not to %s", fuel, told(p, m), told(o, n))
		}
	}
	if n == 0 {
		return
	}
	p, m := walk.Run(u, n-1, l)
	if p.Kind != api.FuelOut || p.Err != api.FuelGone || m != n-1 || p.V != "" || p.At != 0 || !isPrefix(p.Out, o.Out) {
		t.Errorf("fuel %d comes to %s, ahead of %s", n-1, told(p, m), told(o, n))
	}
}

// isPrefix asks whether a row is how another one begins.
func isPrefix(a, b []string) bool { return len(a) <= len(b) && slices.Equal(a, b[:len(a)]) }
