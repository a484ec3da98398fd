package walk_test

import (
	"math/big"
	"slices"
	"strconv"
	"strings"
	"testing"

	"proteus/api"
)

// thing is an object of the model: properties in a list, nothing else.
type thing struct {
	proto *thing
	names []string
	vals  []any
}

func (o *thing) place(name string) int { return slices.Index(o.names, name) }

func (o *thing) look(name string) any {
	for ; o != nil; o = o.proto {
		if i := o.place(name); i >= 0 {
			return o.vals[i]
		}
	}
	return nil
}

func (o *thing) remove(name string) {
	if i := o.place(name); i >= 0 {
		o.names, o.vals = slices.Delete(o.names, i, i+1), slices.Delete(o.vals, i, i+1)
	}
}

// lambda is a Fun of the model, by its function's number.
type lambda int

// model says what a unit does, with values of Go for those of the program: nil, bool, int, string, *thing, lambda. What is wrong is answered, not thrown.
type model struct {
	u       api.Unit
	left    int
	steps   int
	l       api.Limits
	objects int
	depth   int
	globals []any
	out     []string
}

// scene is a call's locals, and this.
type scene struct {
	vars []any
	this any
}

// modelled is what the model says of a unit that may be.
func modelled(u api.Unit, fuel int, l api.Limits) (api.Outcome, int) {
	m := &model{u: u, left: cut(fuel, maxFuel), globals: make([]any, u.Globals)}
	m.l = api.Limits{Objects: cut(l.Objects, maxObjects), Depth: cut(l.Depth, maxCalls), Props: cut(l.Props, maxProps), Str: cut(l.Str, maxStr)}
	v, _, e := m.list(&scene{}, u.Fns[0].Body)
	o := api.Outcome{Err: e, Out: m.out}
	switch {
	case e == 0:
		o.Kind, o.V = api.Done, shown(v)
	case e == api.FuelGone:
		o.Kind = api.FuelOut
	case e >= api.LimObjects:
		o.Kind = api.LimitHit
	default:
		o.Kind = api.Failed
	}
	return o, m.steps
}

func shown(v any) string {
	switch v := v.(type) {
	case bool:
		return strconv.FormatBool(v)
	case int:
		return strconv.Itoa(v)
	case string:
		return v
	case *thing:
		return "object"
	case lambda:
		return "function"
	}
	return "null"
}

func isTrue(v any) bool { return v != nil && v != false }

// begin takes a step.
func (m *model) begin() api.Errno {
	if m.left == 0 {
		return api.FuelGone
	}
	m.left--
	m.steps++
	return 0
}

// list does statements; whether one of them returned, and with what.
func (m *model) list(s *scene, l []api.Node) (any, bool, api.Errno) {
	for i := range l {
		if v, done, e := m.do(s, &l[i]); done || e != 0 {
			return v, done, e
		}
	}
	return nil, false, 0
}

func (m *model) do(s *scene, n *api.Node) (any, bool, api.Errno) {
	if e := m.begin(); e != 0 {
		return nil, false, e
	}
	if n.Kind == api.SBlock {
		return m.list(s, n.Kids)
	}
	for {
		// A while is an if that comes again; all else is done once.
		first, e := m.eval(s, &n.Kids[0])
		if e != 0 {
			return nil, false, e
		}
		switch {
		case n.Kind == api.SReturn:
			return first, true, 0
		case n.Kind == api.SIf && isTrue(first):
			return m.do(s, &n.Kids[1])
		case n.Kind == api.SIf:
			return m.do(s, &n.Kids[2])
		case n.Kind != api.SWhile:
			return nil, false, m.deed(s, n, first)
		case !isTrue(first):
			return nil, false, 0
		}
		if v, done, e := m.do(s, &n.Kids[1]); done || e != 0 {
			return v, done, e
		}
	}
}

// deed is what a statement does whose first Kid came to that; the others are yet to be done.
func (m *model) deed(s *scene, n *api.Node, first any) api.Errno {
	rest, e := m.evals(s, n.Kids[1:])
	if e != 0 {
		return e
	}
	switch n.Kind {
	case api.SPrint:
		m.out = append(m.out, shown(first))
	case api.SLocal:
		s.vars[n.N] = first
	case api.SGlobal:
		m.globals[n.N] = first
	case api.SSet, api.SSetIx, api.SDel, api.SDelIx:
		o, is := first.(*thing)
		name, named := n.S, true
		if n.Kind == api.SSetIx || n.Kind == api.SDelIx {
			name, named = rest[0].(string)
		}
		if !is || !named {
			return api.ErrType
		}
		if n.Kind == api.SDel || n.Kind == api.SDelIx {
			o.remove(name)
			return 0
		}
		return m.store(o, name, rest[len(rest)-1])
	}
	return 0
}

func (m *model) store(o *thing, name string, v any) api.Errno {
	if i := o.place(name); i >= 0 {
		o.vals[i] = v
		return 0
	}
	if len(o.names) == m.l.Props {
		return api.LimProps
	}
	o.names, o.vals = append(o.names, name), append(o.vals, v)
	return 0
}

func (m *model) evals(s *scene, l []api.Node) ([]any, api.Errno) {
	var out []any
	for i := range l {
		v, e := m.eval(s, &l[i])
		if e != 0 {
			return nil, e
		}
		out = append(out, v)
	}
	return out, 0
}

func (m *model) eval(s *scene, n *api.Node) (any, api.Errno) {
	if e := m.begin(); e != 0 {
		return nil, e
	}
	switch n.Kind {
	case api.ENull:
		return nil, 0
	case api.EBool:
		return n.N == 1, 0
	case api.EInt:
		return n.N, 0
	case api.EStr:
		return n.S, 0
	case api.EThis:
		return s.this, 0
	case api.ELocal:
		return s.vars[n.N], 0
	case api.EGlobal:
		return m.globals[n.N], 0
	case api.EFun:
		return lambda(n.N), 0
	case api.EObj:
		return m.fresh(s, n)
	}
	first, e := m.eval(s, &n.Kids[0])
	if e != 0 {
		return nil, e
	}
	return m.further(s, n, first)
}

// fresh is an object that is written.
func (m *model) fresh(s *scene, n *api.Node) (any, api.Errno) {
	if m.objects == m.l.Objects {
		return nil, api.LimObjects
	}
	m.objects++
	o := &thing{}
	for i := range n.Kids {
		v, e := m.eval(s, &n.Kids[i])
		if e == 0 {
			e = m.store(o, n.Names[i], v)
		}
		if e != 0 {
			return nil, e
		}
	}
	return o, 0
}

// further is what becomes of a node whose first Kid came to that.
func (m *model) further(s *scene, n *api.Node, first any) (any, api.Errno) {
	o, isThing := first.(*thing)
	var callee, this any = first, nil
	switch {
	case n.Kind == api.EAnd && !isTrue(first), n.Kind == api.EOr && isTrue(first):
		return first, 0
	case n.Kind == api.EMeth && !isThing:
		return nil, api.ErrType
	case n.Kind == api.EMeth:
		callee, this = o.look(n.S), o
	}
	rest, e := m.evals(s, n.Kids[1:])
	if e != 0 {
		return nil, e
	}
	switch n.Kind {
	case api.EAnd, api.EOr:
		return rest[0], 0
	case api.ECall, api.EMeth:
		return m.enter(callee, this, rest)
	case api.EUn:
		return one(n.Op, first)
	case api.EBin:
		return two(n.Op, first, rest[0], m.l.Str)
	case api.EBuilt:
		return m.inner(n.Op, first, rest)
	}
	name, named := n.S, true
	if n.Kind == api.EIndex {
		name, named = rest[0].(string)
	}
	if !isThing || !named {
		return nil, api.ErrType
	}
	return o.look(name), 0
}

func (m *model) enter(callee, this any, args []any) (any, api.Errno) {
	f, is := callee.(lambda)
	if !is {
		return nil, api.ErrType
	}
	if m.depth == m.l.Depth {
		return nil, api.LimDepth
	}
	fn := m.u.Fns[f]
	s := &scene{vars: make([]any, fn.Locals), this: this}
	for i := range min(fn.Params, len(args)) {
		s.vars[i] = args[i]
	}
	m.depth++
	v, _, e := m.list(s, fn.Body)
	m.depth--
	return v, e
}

func one(op int, v any) (any, api.Errno) {
	if op == api.Not {
		return !isTrue(v), 0
	}
	n, is := v.(int)
	if !is {
		return nil, api.ErrType
	}
	return wrapped(new(big.Int).Neg(big.NewInt(int64(n)))), 0
}

// wrapped is a number in 63 bits.
func wrapped(n *big.Int) int {
	span := new(big.Int).Lsh(big.NewInt(1), 63)
	n.Mod(n, span)
	if n.Cmp(big.NewInt(most)) > 0 {
		n.Sub(n, span)
	}
	return int(n.Int64())
}

func two(op int, a, b any, most int) (any, api.Errno) {
	if op == api.Eq || op == api.Ne {
		return (a == b) == (op == api.Eq), 0
	}
	m, isInt := a.(int)
	n, areInts := b.(int)
	if isInt && areInts {
		return reckoned(op, big.NewInt(int64(m)), big.NewInt(int64(n)))
	}
	s, isStr := a.(string)
	t, areStrs := b.(string)
	switch {
	case !isStr || !areStrs || op > api.Add && op < api.Lt:
		return nil, api.ErrType
	case op == api.Add && len(s+t) > most:
		return nil, api.LimStr
	case op == api.Add:
		return s + t, 0
	}
	return ordered(op, strings.Compare(s, t)), 0
}

func reckoned(op int, a, b *big.Int) (any, api.Errno) {
	var r big.Int
	switch op {
	case api.Add:
		r.Add(a, b)
	case api.Sub:
		r.Sub(a, b)
	case api.Mul:
		r.Mul(a, b)
	case api.Div, api.Mod:
		if b.Sign() == 0 {
			return nil, api.ErrZero
		}
		var rem big.Int
		r.QuoRem(a, b, &rem)
		if op == api.Mod {
			r = rem
		}
	default:
		return ordered(op, a.Cmp(b)), 0
	}
	return wrapped(&r), 0
}

func ordered(op, c int) bool {
	switch op {
	case api.Lt:
		return c < 0
	case api.Le:
		return c <= 0
	case api.Gt:
		return c > 0
	}
	return c >= 0
}

// inner is a built-in call.
func (m *model) inner(op int, first any, rest []any) (any, api.Errno) {
	s, isStr := first.(string)
	switch {
	case op == api.BLen && isStr:
		return len(s), 0
	case op == api.BStr && len(shown(first)) > m.l.Str:
		return nil, api.LimStr
	case op == api.BStr:
		return shown(first), 0
	}
	o, is := first.(*thing)
	if !is {
		return nil, api.ErrType
	}
	var second any
	if len(rest) > 0 {
		second = rest[0]
	}
	switch op {
	case api.BCount:
		return len(o.names), 0
	case api.BKey:
		return o.nth(second)
	case api.BHas:
		if name, named := second.(string); named {
			return o.place(name) >= 0, 0
		}
	case api.BProto:
		if o.proto == nil {
			return nil, 0
		}
		return o.proto, 0
	case api.BSetProto:
		return o.hang(second)
	}
	return nil, api.ErrType
}

func (o *thing) nth(i any) (any, api.Errno) {
	n, is := i.(int)
	if !is {
		return nil, api.ErrType
	}
	if n < 0 || n >= len(o.names) {
		return nil, 0
	}
	return o.names[n], 0
}

func (o *thing) hang(under any) (any, api.Errno) {
	p, is := under.(*thing)
	if !is && under != nil {
		return nil, api.ErrType
	}
	for q := p; q != nil; q = q.proto {
		if q == o {
			return nil, api.ErrCycle
		}
	}
	o.proto = p
	return o, 0
}

// holdModel asks whether a unit comes to what the model says.
func holdModel(t *testing.T, u api.Unit, fuel int, l api.Limits) (api.Outcome, int) {
	t.Helper()
	o, n := run(t, u, fuel, l)
	p, m := modelled(u, fuel, l)
	if !same(o, p) || n != m {
		t.Fatalf("with fuel %d and %v, %v comes to %s, not to %s", fuel, l, u, told(o, n), told(p, m))
	}
	return o, n
}
