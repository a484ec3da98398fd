package walk

import (
	"proteus/api"
	"proteus/value"
)

// stmts walks statements up to the first that ends the function; with what, and whether one does.
func (w *walker) stmts(f *frame, l []api.Node) (api.Value, bool) {
	for _, n := range l {
		if v, ends := w.stmt(f, n); ends {
			return v, true
		}
	}
	return api.Value{}, false
}

// stmt walks one.
func (w *walker) stmt(f *frame, n api.Node) (api.Value, bool) {
	w.step()
	switch n.Kind {
	case api.SBlock:
		return w.stmts(f, n.Kids)
	case api.SIf:
		if w.holds(f, n.Kids[0]) {
			return w.stmt(f, n.Kids[1])
		}
		return w.stmt(f, n.Kids[2])
	case api.SWhile:
		return w.loop(f, n)
	case api.SReturn:
		return w.expr(f, n.Kids[0]), true
	}
	w.act(f, n, w.exprs(f, n.Kids))
	return api.Value{}, false
}

// holds asks whether what an expression answers counts as true.
func (w *walker) holds(f *frame, n api.Node) bool { return value.Truth(w.expr(f, n)) }

// loop walks a while: it ends, as each round takes steps.
func (w *walker) loop(f *frame, n api.Node) (api.Value, bool) {
	for w.holds(f, n.Kids[0]) {
		if v, ends := w.stmt(f, n.Kids[1]); ends {
			return v, true
		}
	}
	return api.Value{}, false
}

// act does what a statement does with the values of its Kids, which are all walked.
func (w *walker) act(f *frame, n api.Node, v []api.Value) {
	switch n.Kind {
	case api.SLocal:
		f.setLocal(n.N, v[0])
	case api.SGlobal:
		w.globals[n.N] = v[0]
	case api.SSet:
		w.set(v[0], n.S, v[1])
	case api.SSetIx:
		w.set(v[0], as(v[1], api.Str).S, v[2])
	case api.SDel:
		w.drop(v[0], n.S)
	case api.SDelIx:
		w.drop(v[0], as(v[1], api.Str).S)
	case api.SPrint:
		w.out = append(w.out, value.Show(v[0]))
	}
}
