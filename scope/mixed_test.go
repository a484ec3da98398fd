package scope_test

import (
	"reflect"
	"slices"
	"strconv"
	"testing"

	"proteus/api"
	"proteus/scope"
	"proteus/tree"
)

// item is a node of a program, laid out in the order of the text.
type item struct {
	api.Node
	owner  int // the function in which it stands
	parent int // the item whose Kid it is
	number int // of an EFn: its function's
}

// layout is a program's items, the whole first.
type layout []item

func laid(n api.Node) layout {
	var all layout
	fns := 0
	var lay func(n api.Node, owner, parent int)
	lay = func(n api.Node, owner, parent int) {
		me := len(all)
		all = append(all, item{n, owner, parent, 0})
		if n.Kind == api.EFn {
			fns++
			all[me].number = fns
			owner = fns
		}
		for _, k := range n.Kids {
			lay(k, owner, me)
		}
	}
	lay(n, 0, -1)
	return all
}

// declared is what a function declares; or an error, and its place.
func (all layout) declared(fn item) ([]string, int, api.Errno) {
	var out []string
	for _, s := range fn.Names {
		if slices.Contains(out, s) {
			return nil, fn.At, api.ErrTwice
		}
		out = append(out, s)
	}
	for _, x := range all {
		switch {
		case x.Kind != api.SLet || x.owner != fn.number:
		case slices.Contains(out, x.S):
			return nil, x.At, api.ErrTwice
		case len(out) == 24:
			return nil, x.At, api.ErrFull
		default:
			out = append(out, x.S)
		}
	}
	return out, 0, api.OK
}

// resolve is what Resolve must say of a program that may be.
func (all layout) resolve() (api.Unit, int, api.Errno) {
	globals, at, e := all.declared(all[0])
	names := [][]string{nil}
	for _, x := range all {
		if e != api.OK {
			return api.Unit{}, at, e
		}
		switch x.Kind {
		case api.EFn:
			if x.number == 32 {
				return api.Unit{}, x.At, api.ErrFull
			}
			var own []string
			own, at, e = all.declared(x)
			names = append(names, own)
		case api.EName, api.SLet, api.SAssign:
			if !slices.Contains(names[x.owner], x.S) && !slices.Contains(globals, x.S) {
				at, e = x.At, api.ErrName
			}
		}
	}
	if e != api.OK {
		return api.Unit{}, at, e
	}
	return all.unit(globals, names), 0, api.OK
}

// unit puts the items together, the last one first, so that all Kids of one are there when it comes.
func (all layout) unit(globals []string, names [][]string) api.Unit {
	u := api.Unit{Globals: len(globals), Fns: make([]api.Fn, len(names))}
	kids := make([][]api.Node, len(all))
	for i := len(all) - 1; i >= 0; i-- {
		x := all[i]
		n := api.Node{Kind: x.Kind, Op: x.Op, N: x.N, S: x.S, Names: x.Names, Kids: kids[i]}
		if local := slices.Index(names[x.owner], x.S); x.Kind == api.EName || x.Kind == api.SLet || x.Kind == api.SAssign {
			n = api.Node{Kind: map[bool]int{true: api.ELocal, false: api.SLocal}[x.Kind == api.EName], N: local, Kids: kids[i]}
			if local < 0 {
				n.Kind, n.N = n.Kind+1, slices.Index(globals, x.S)
			}
		}
		if x.Kind == api.EFn || i == 0 {
			u.Fns[x.number] = api.Fn{Params: len(x.Names), Locals: len(names[x.number]), Body: kids[i]}
			n = api.Node{Kind: api.EFun, N: x.number}
		}
		if i > 0 {
			kids[x.parent] = slices.Insert(kids[x.parent], 0, n)
		}
	}
	return u
}

// grownProgram is a program whose names are right but for about one in wild, and for how much there is.
func grownProgram(m model, d *dice, wild int) api.Node {
	pool := several("v", 30)
	any := func() string { return pool[d.upTo(len(pool))] }
	globals := slices.Clone(pool[d.upTo(10) : 10+d.upTo(6)])
	first := slices.Clone(globals)
	own := &globals
	fresh := func() string {
		for range 50 {
			if s := any(); !slices.Contains(*own, s) {
				*own = append(*own, s)
				return s
			}
		}
		return any()
	}
	g := &grower{model: m, dice: d, rows: rows(false)}
	for kind, more := range map[int]int{api.EName: 8, api.EFn: 5, api.SLet: 6, api.SAssign: 3} {
		g.rows = append(g.rows, slices.Repeat([]line{m[kind]}, more)...)
	}
	slices.SortFunc(g.rows, func(a, b line) int { return a.kind - b.kind })
	g.name = func(kind int) string {
		known := slices.Concat(*own, globals)
		switch {
		case d.upTo(wild) == 0:
			return any()
		case kind == api.SLet || kind == api.EFn:
			return fresh()
		case len(known) == 0:
			return any()
		}
		return known[d.upTo(len(known))]
	}
	g.within = func(grow func() api.Node) api.Node {
		around := own
		own = new([]string)
		n := grow()
		own = around
		return n
	}
	n := block()
	h, most := 2+d.upTo(6), 8
	if d.upTo(6) == 0 {
		h, most = 4, 26 // many names and functions, of which there can be too many
	}
	for range d.upTo(most) {
		n.Kids = append(n.Kids, g.grow('S', h))
	}
	for _, s := range first {
		n.Kids = slices.Insert(n.Kids, d.upTo(len(n.Kids)+1), let(s, d.upTo(1000)))
	}
	return n
}

// renamed is a program with each name turned to another one; properties are none.
func renamed(n api.Node, to func(string) string) api.Node {
	n = copied(n)
	for _, x := range flat([]api.Node{n}) {
		switch x.Kind {
		case api.EName, api.SLet, api.SAssign:
			x.S = to(x.S)
		case api.EFn:
			for i, s := range x.Names {
				x.Names[i] = to(s)
			}
		}
	}
	return n
}

// turns are ways to turn the names v0 to v29 to others, one to one.
func turns() []func(string) string {
	number := func(s string) int {
		i, _ := strconv.Atoi(s[1:])
		return i
	}
	return []func(string) string{
		func(s string) string { return "v" + strconv.Itoa(29-number(s)) },
		func(s string) string { return "v" + strconv.Itoa(number(s)*7%30) },
		func(s string) string { return [...]string{"_", "Let", "o"}[number(s)%3] + strconv.Itoa(number(s)) },
		func(s string) string {
			return strconv.Itoa(100000 - number(s))[:0] + "long_name_"[:10-len(s)+2] + s[1:]
		},
	}
}

// fnsOf is how many EFns a program has.
func fnsOf(n api.Node) int {
	count := 0
	for _, x := range laid(n) {
		if x.Kind == api.EFn {
			count++
		}
	}
	return count
}

// P8.1, P8.3: mixed programs against the chapter; what comes of them may be, has as many functions as there are EFns and one more, and hangs on no name.
func TestMixedPrograms(t *testing.T) {
	m := newModel()
	d := dice(5)
	seen := map[api.Errno]int{}
	kinds := map[int]int{}
	for i := range 12000 {
		n := grownProgram(m, &d, []int{3, 30, 1000000}[i%3])
		if tree.Check(n) != api.OK {
			t.Fatalf("%v may not be", n)
		}
		want, wantAt, wantErr := laid(n).resolve()
		u, at, e := scope.Resolve(n)
		seen[e]++
		if e != wantErr || at != wantAt || !reflect.DeepEqual(bareUnit(u), bareUnit(want)) {
			t.Fatalf("Resolve(%v) is %v, %d, %v; not %v, %d, %v", n, u, at, e, want, wantAt, wantErr)
		}
		for _, turn := range turns() {
			v, vAt, ve := scope.Resolve(renamed(n, turn))
			if ve != e || vAt != at || !scope.Same(u, v) || !reflect.DeepEqual(bareUnit(u), bareUnit(v)) {
				t.Fatalf("Resolve(%v) is %v, %d, %v; with other names %v, %d, %v", n, u, at, e, v, vAt, ve)
			}
		}
		if e != api.OK {
			continue
		}
		if c := scope.Check(u); c != api.OK {
			t.Fatalf("Check(%v) is %v", u, c)
		}
		if len(u.Fns) != fnsOf(n)+1 {
			t.Fatalf("%v has %d functions, not %d and one more", u, len(u.Fns), fnsOf(n))
		}
		for _, f := range u.Fns {
			for _, x := range flat(f.Body) {
				kinds[x.Kind]++
			}
		}
	}
	if seen[api.OK] < 4000 || seen[api.ErrName] < 1000 || seen[api.ErrTwice] < 500 || seen[api.ErrFull] < 20 {
		t.Errorf("the programs are of one sort: %v", seen)
	}
	for _, l := range rows(true) {
		if kinds[l.kind] < 100 {
			t.Errorf("of kind %d there are only %d nodes", l.kind, kinds[l.kind])
		}
	}
}

// P8.3: each kind of node in a program comes to a unit that may be.
func TestEachKind(t *testing.T) {
	m := newModel()
	for _, l := range rows(false) {
		n := plain(m, l)
		whole := block(let("b", 3), n)
		switch l.use {
		case 'E':
			whole = block(let("a", 3), expr(n))
		case 'B':
			whole = block(node(api.SWhile, null(), n))
		}
		if l.kind == api.SAssign {
			whole.Kids[0].S = "a"
		}
		u, at, e := scope.Resolve(whole)
		if e != api.OK || at != 0 || scope.Check(u) != api.OK || len(u.Fns) != 1+fnsOf(whole) {
			t.Errorf("Resolve(%v) is %v, %d, %v", whole, u, at, e)
		}
	}
}
