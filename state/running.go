package state

import (
	"sync/atomic"

	"proteus/api"
	"proteus/heap"
	"proteus/site"
)

// running is what a State has. It is over where end has a kind; what was printed stands beside that, as it is told before, too.
type running struct {
	heap    *heap.Heap
	sites   *site.Table
	limits  api.Limits
	fuel    int
	steps   atomic.Int64
	globals []api.Value
	calls   int // those under way
	out     []string
	touched []int
	end     api.Outcome
}

// within is a number, cut to 0 and to most.
func within(n, most int) int { return min(max(n, 0), most) }

// object is the value of an object's number.
func object(o int) api.Value { return api.Value{Kind: api.Obj, N: o} }

// goes asks whether it goes on: by an error it fails.
func (r *running) goes(e api.Errno) bool {
	if e != api.OK {
		r.end = api.Outcome{Kind: kindOf(e), Err: e}
	}
	return e == api.OK
}

// answer is a value, if there is no error by which it fails.
func (r *running) answer(v api.Value, e api.Errno) (api.Value, bool) {
	if !r.goes(e) {
		return api.Value{}, false
	}
	return v, true
}

// needs asks whether a value is of a kind, as it has to be.
func (r *running) needs(v api.Value, kind int) bool {
	return r.goes(typed(v, kind))
}

// typed is the error of a value that has to be of a kind.
func typed(v api.Value, kind int) api.Errno {
	if v.Kind != kind {
		return api.ErrType
	}
	return api.OK
}

// kindOf is the kind of outcome that an error brings.
func kindOf(e api.Errno) int {
	switch e {
	case api.FuelGone:
		return api.FuelOut
	case api.LimObjects, api.LimDepth, api.LimProps, api.LimStr:
		return api.LimitHit
	}
	return api.Failed
}

// tick takes all steps that are left, where they are too few.
func (r *running) tick(n int) bool {
	left := r.fuel - int(r.steps.Load())
	r.steps.Add(int64(within(n, left)))
	if n > left {
		return r.goes(api.FuelGone)
	}
	return true
}

// enter asks whether there may be one call more.
func (r *running) enter() bool {
	if r.calls >= r.limits.Depth {
		return r.goes(api.LimDepth)
	}
	r.calls++
	return true
}

// hasGlobal asks whether there is such a global.
func (r *running) hasGlobal(i int) bool { return i >= 0 && i < len(r.globals) }

// done ends what was done to an object that had that epoch ahead of it.
func (r *running) done(o, was int, e api.Errno) bool {
	r.note(o, was)
	return r.goes(e)
}

// note keeps an object's number for Touched, if it has changed since its epoch was that.
func (r *running) note(o, was int) {
	if r.heap.Epoch(o) != was {
		r.touched = append(r.touched, o)
	}
}
