package walk

import (
	"proteus/api"
	"proteus/heap"
	"proteus/value"
)

// walker is a run: what the program has, and how far it has come.
type walker struct {
	fns         []api.Fn
	globals     []api.Value
	heap        *heap.Heap
	limits      api.Limits
	fuel, steps int
	calls       int // those under way; function 0, as the whole, is none
	out         []string
}

// newWalker is a run ahead of its first step; fuel and limits are cut already.
func newWalker(u api.Unit, fuel int, l api.Limits) *walker {
	// Shapes do not show, so there are none: each object is a plain dictionary.
	return &walker{fns: u.Fns, globals: make([]api.Value, u.Globals), heap: heap.New(l, 0), limits: l, fuel: fuel}
}

// run walks function 0, and catches what ends it on the way.
func (w *walker) run() (o api.Outcome) {
	defer func() {
		if e, ended := recover().(api.Errno); ended {
			o = api.Outcome{Kind: kindOf(e), Err: e, Out: w.out}
		}
	}()
	v, _ := w.stmts(&frame{}, w.fns[0].Body)
	return api.Outcome{Kind: api.Done, Out: w.out, V: value.Show(v)}
}

// kindOf is the kind of outcome that an error brings.
func kindOf(e api.Errno) int {
	switch e {
	case api.FuelGone:
		return api.FuelOut
	case api.LimObjects, api.LimDepth, api.LimProps, api.LimStr:
		return api.LimitHit
	}
	return api.Failed
}

// check ends the run, if something is wrong.
func check(e api.Errno) {
	if e != api.OK {
		panic(e)
	}
}

// must is a value that comes with no error; else it ends the run.
func must(v api.Value, e api.Errno) api.Value {
	check(e)
	return v
}

// step is what walking a node takes, ahead of all else.
func (w *walker) step() {
	if w.steps == w.fuel {
		panic(api.FuelGone)
	}
	w.steps++
}

// locals are a call's, by numbers.
type locals []api.Value

func (l locals) local(i int) api.Value       { return l[i] }
func (l locals) setLocal(i int, v api.Value) { l[i] = v }

// frame is a call under way: its locals, and this.
type frame struct {
	locals
	this api.Value
}

// begin is the frame of a call with these; those that there are no parameters for are not kept.
func begin(fn api.Fn, this api.Value, args []api.Value) *frame {
	f := &frame{locals: make(locals, fn.Locals), this: this}
	copy(f.locals[:fn.Params], args)
	return f
}

// call is what a function answers.
func (w *walker) call(fun, this api.Value, args []api.Value) api.Value {
	number := as(fun, api.Fun).N
	if w.calls >= w.limits.Depth {
		panic(api.LimDepth)
	}
	if number >= len(w.fns) {
		return api.Value{}
	}
	fn := w.fns[number]
	w.calls++
	v, _ := w.stmts(begin(fn, this, args), fn.Body)
	w.calls--
	return v
}
