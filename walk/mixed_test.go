package walk_test

import (
	"testing"

	"proteus/api"
	"proteus/scope"
	"proteus/walk"
)

// dice is a row of numbers that looks like chance, and is the same each time.
type dice uint64

func (d *dice) upTo(n int) int {
	*d = *d*6364136223846793005 + 1442695040888963407
	return int(uint64(*d) >> 33 % uint64(n))
}

// grower makes units that may be, of which most do something ahead of their end.
type grower struct {
	dice
	locals, globals, fns int
	careless             int // of so many values one is of any kind
}

// fnShape is how many parameters and locals a function has.
type fnShape struct{ params, locals int }

func grown(seed uint64) api.Unit {
	g := &grower{dice: dice(seed), globals: 6}
	g.careless = []int{4, 12, 40}[g.upTo(3)]
	shapes := []fnShape{{}}
	for range 1 + g.upTo(4) {
		p := g.upTo(4)
		shapes = append(shapes, fnShape{p, p + g.upTo(4)})
	}
	g.fns = len(shapes)
	u := api.Unit{Globals: g.globals}
	for i, s := range shapes {
		g.locals = s.locals
		var l []api.Node
		if i == 0 {
			l = g.prologue()
		}
		for range 1 + g.upTo(5) {
			l = append(l, g.stmt(5))
		}
		if g.upTo(2) == 0 {
			l = append(l, answer(g.any(2)))
		}
		u.Fns = append(u.Fns, api.Fn{Params: s.params, Locals: s.locals, Body: l})
	}
	return u
}

// prologue gives the globals values: 0 and 1 are objects, 2 an Int, 3 a Str, 4 and 5 functions.
func (g *grower) prologue() []api.Node {
	obj := func(kids ...api.Node) api.Node {
		return api.Node{Kind: api.EObj, Names: []string{"f", "a", "b"}[:len(kids)], Kids: kids}
	}
	return body(
		numbered(api.SGlobal, 0, obj(g.callee(), whole(3), quoted("b"))),
		numbered(api.SGlobal, 1, signed(api.EBuilt, api.BSetProto, obj(g.callee()), global(0))),
		numbered(api.SGlobal, 2, whole(g.upTo(9))),
		numbered(api.SGlobal, 3, quoted("ab")),
		numbered(api.SGlobal, 4, g.callee()),
		numbered(api.SGlobal, 5, g.callee()),
	)
}

func (g *grower) name() string { return []string{"a", "b", "c", "f", "f"}[g.upTo(5)] }

// callee is a function; function 0 is one, too.
func (g *grower) callee() api.Node { return fun(g.upTo(g.fns)) }

// list is some of these.
func (g *grower) list(most, room int) []api.Node {
	var out []api.Node
	for range g.upTo(most + 1) {
		out = append(out, g.any(room))
	}
	return out
}

// of is an expression that mostly is of that kind.
func (g *grower) of(kind, room int) api.Node {
	if g.upTo(g.careless) == 0 {
		return g.any(room - 1)
	}
	switch kind {
	case api.Int:
		return g.number(room)
	case api.Str:
		return g.str(room)
	case api.Obj:
		return g.obj(room)
	case api.Fun:
		if g.upTo(2) == 0 {
			return global(4 + g.upTo(2))
		}
		return g.callee()
	}
	return g.any(room)
}

func (g *grower) number(room int) api.Node {
	switch n := g.upTo(9); {
	case room < 1 || n < 2:
		return whole(g.upTo(4))
	case n < 4:
		return global(2)
	case n < 5:
		return signed(api.EUn, api.Neg, g.of(api.Int, room-1))
	case n < 6:
		return signed(api.EBuilt, api.BLen, g.of(api.Str, room-1))
	case n < 7:
		return signed(api.EBuilt, api.BCount, g.of(api.Obj, room-1))
	}
	return signed(api.EBin, 1+g.upTo(5), g.of(api.Int, room-1), g.of(api.Int, room-1))
}

func (g *grower) str(room int) api.Node {
	switch n := g.upTo(8); {
	case room < 1 || n < 3:
		return quoted([]string{"", "a", "b", "f", "zz"}[g.upTo(5)])
	case n < 4:
		return global(3)
	case n < 5:
		return signed(api.EBuilt, api.BStr, g.any(room-1))
	case n < 6:
		return signed(api.EBuilt, api.BKey, g.of(api.Obj, room-1), g.of(api.Int, room-1))
	}
	return sum(g.of(api.Str, room-1), g.of(api.Str, room-1))
}

func (g *grower) obj(room int) api.Node {
	switch n := g.upTo(10); {
	case room < 1 || n < 5:
		return global(g.upTo(2))
	case n < 6:
		return node(api.EThis)
	case n < 7:
		return signed(api.EBuilt, api.BProto, g.of(api.Obj, room-1))
	case n < 8:
		return signed(api.EBuilt, api.BSetProto, g.of(api.Obj, room-1), g.of(api.Obj, room-1))
	}
	n := api.Node{Kind: api.EObj}
	for range g.upTo(4) {
		n.Names = append(n.Names, g.name())
		n.Kids = append(n.Kids, g.any(room-1))
	}
	return n
}

// any is an expression of any kind.
func (g *grower) any(room int) api.Node {
	if room < 1 {
		return g.leaf()
	}
	switch n := g.upTo(16); n {
	case 0, 1:
		return g.number(room)
	case 2:
		return g.str(room)
	case 3, 4:
		return g.obj(room)
	case 5:
		return signed(api.EUn, api.Not, g.any(room-1))
	case 6:
		kind := []int{api.Int, api.Str}[g.upTo(2)]
		return signed(api.EBin, api.Lt+g.upTo(6), g.of(kind, room-1), g.of(kind, room-1))
	case 7, 8:
		return node(api.EAnd+n-7, g.any(room-1), g.any(room-1))
	case 9:
		return named(api.EGet, g.name(), g.of(api.Obj, room-1))
	case 10:
		return node(api.EIndex, g.of(api.Obj, room-1), g.of(api.Str, room-1))
	case 11:
		return node(api.ECall, append(body(g.of(api.Fun, room-1)), g.list(4, room-1)...)...)
	case 12:
		return named(api.EMeth, "f", append(body(g.of(api.Obj, room-1)), g.list(3, room-1)...)...)
	case 13:
		return signed(api.EBuilt, api.BHas, g.of(api.Obj, room-1), g.of(api.Str, room-1))
	}
	return g.leaf()
}

func (g *grower) leaf() api.Node {
	switch g.upTo(7) {
	case 0:
		return node(api.ENull)
	case 1:
		return numbered(api.EBool, g.upTo(2))
	case 2:
		return node(api.EThis)
	case 3:
		return g.callee()
	case 4:
		return whole(g.upTo(3))
	case 5:
		if g.locals > 0 {
			return local(g.upTo(g.locals))
		}
	}
	return global(g.upTo(g.globals))
}

func (g *grower) block(room int) api.Node {
	n := block()
	for range g.upTo(3) {
		n.Kids = append(n.Kids, g.stmt(room-1))
	}
	return n
}

func (g *grower) stmt(room int) api.Node {
	kind := g.upTo(17)
	if room < 3 && kind > 11 {
		kind = 0
	}
	switch kind {
	case 0, 1, 2:
		return show(g.any(room - 1))
	case 3, 4:
		return node(api.SExpr, g.any(room-1))
	case 5:
		if g.locals > 0 {
			return numbered(api.SLocal, g.upTo(g.locals), g.any(room-1))
		}
		fallthrough
	case 6:
		return numbered(api.SGlobal, 2, g.of(api.Int, room-1))
	case 7:
		return numbered(api.SGlobal, 3, g.of(api.Str, room-1))
	case 8:
		return named(api.SSet, g.name(), g.of(api.Obj, room-1), g.any(room-1))
	case 9:
		return node(api.SSetIx, g.of(api.Obj, room-1), g.of(api.Str, room-1), g.any(room-1))
	case 10:
		return named(api.SDel, g.name(), g.of(api.Obj, room-1))
	case 11:
		return node(api.SDelIx, g.of(api.Obj, room-1), g.of(api.Str, room-1))
	case 12, 13:
		return node(api.SIf, g.any(room-1), g.block(room-1), g.block(room-1))
	case 14:
		return node(api.SWhile, g.any(room-1), g.block(room-1))
	case 15:
		return numbered(api.SGlobal, g.upTo(g.globals), g.any(room-1))
	}
	return node(api.SIf, g.any(room-1), block(answer(g.any(room-1))), g.block(room-1))
}

// limits are some of which few are so small that the prologue hits them.
func (g *grower) limits() api.Limits {
	some := func(l ...int) int { return l[g.upTo(len(l))] }
	return api.Limits{
		Objects: some(-1, 2, 2, 3, 4, 5, 9, 199, 200, 207),
		Depth:   some(-1, 0, 1, 2, 5, 9, 49, 50, 57),
		Props:   some(-1, 3, 3, 3, 4, 4, 5, 31, 32, 39),
		Str:     some(-1, 0, 1, 2, 3, 4, 9, 255, 256, 263),
	}
}

// P13.1, P13.2: units of all sorts, against the model; with several fuels and limits, against one another.
func TestMixed(t *testing.T) {
	const units, enough = 2000, 3000
	seen := map[api.Errno]int{}
	for seed := range uint64(units) {
		u := grown(seed)
		if e := scope.Check(u); e != api.OK {
			t.Fatal("the test's own unit may not be:", e, u)
		}
		g := &grower{dice: dice(seed)}
		all, top := holdModel(t, u, enough, greatest)
		withinFuel(t, all, top, enough)
		seen[all.Err]++
		for range 5 {
			l, fuel := g.limits(), enough
			if g.upTo(3) == 0 {
				fuel = g.upTo(top + 2)
			}
			o, n := holdModel(t, u, fuel, l)
			withinFuel(t, o, n, fuel)
			seen[o.Err]++
			p, m := walk.Run(u, fuel+1+g.upTo(50), l)
			follows(t, o, p, n, m, o.Kind != api.FuelOut)
			p, m = walk.Run(u, fuel, wider(l)[g.upTo(6)])
			follows(t, o, p, n, m, o.Kind != api.LimitHit)
		}
	}
	for _, e := range []api.Errno{api.OK, api.ErrType, api.ErrZero, api.ErrCycle, api.LimObjects, api.LimDepth, api.LimProps, api.LimStr, api.FuelGone} {
		if seen[e] < units/100 {
			t.Errorf("too few runs end with %d: %d", int(e), seen[e])
		}
	}
}
