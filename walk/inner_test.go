package walk

import (
	"testing"

	"proteus/api"
)

// The chapter's words: a Fun of no function is a Null, without a step; no unit that may be has one, so a call is done from within.
func TestFunOfNoFunction(t *testing.T) {
	u := api.Unit{Fns: []api.Fn{{}, {Body: []api.Node{{Kind: api.SReturn, Kids: []api.Node{{Kind: api.EBool, N: 1}}}}}}}
	for _, n := range []int{2, 3, 31, 32, 1 << 40} {
		w := newWalker(u, 9, Cut(api.Limits{Depth: 1}))
		for range 3 {
			if v := w.call(api.Value{Kind: api.Fun, N: n}, api.Value{}, []api.Value{{Kind: api.Int, N: 5}}); v != (api.Value{}) || w.steps != 0 || w.calls != 0 {
				t.Errorf("of %d it is %v, in %d steps, with %d calls under way", n, v, w.steps, w.calls)
			}
		}
		if v := w.call(api.Value{Kind: api.Fun, N: 1}, api.Value{}, nil); v != (api.Value{Kind: api.Bool, N: 1}) || w.steps != 2 {
			t.Errorf("behind it, of 1 it is %v, in %d steps", v, w.steps)
		}
	}
}

// The chapter's words: the limit of calls comes ahead of whether there is such a function.
func TestFunOfNoFunctionAtTheLimit(t *testing.T) {
	w := newWalker(api.Unit{Fns: []api.Fn{{}}}, 9, Cut(api.Limits{}))
	defer func() {
		if e := recover(); e != api.LimDepth || w.steps != 0 {
			t.Errorf("it ends with %v", e)
		}
	}()
	w.call(api.Value{Kind: api.Fun, N: 7}, api.Value{}, nil)
	t.Error("it goes on")
}

// The chapter's ways: a frame embeds its locals; the first are the arguments, as far as there are both.
func TestFrame(t *testing.T) {
	one, two := api.Value{Kind: api.Int, N: 1}, api.Value{Kind: api.Int, N: 2}
	for _, x := range []struct {
		fn   api.Fn
		args []api.Value
		want []api.Value
	}{
		{api.Fn{}, nil, nil},
		{api.Fn{}, []api.Value{one}, nil},
		{api.Fn{Locals: 2}, []api.Value{one, two}, []api.Value{{}, {}}},
		{api.Fn{Params: 1, Locals: 2}, []api.Value{one, two}, []api.Value{one, {}}},
		{api.Fn{Params: 2, Locals: 2}, []api.Value{one}, []api.Value{one, {}}},
		{api.Fn{Params: 2, Locals: 3}, []api.Value{one, two}, []api.Value{one, two, {}}},
	} {
		f := begin(x.fn, one, x.args)
		if len(f.locals) != len(x.want) || f.this != one {
			t.Fatalf("%v with %v has %v, and is of %v", x.fn, x.args, f.locals, f.this)
		}
		for i, v := range x.want {
			if f.local(i) != v {
				t.Errorf("%v with %v has %v", x.fn, x.args, f.locals)
			}
			f.setLocal(i, two)
			if f.local(i) != two {
				t.Errorf("local %d does not change", i)
			}
		}
		if len(x.args) > 0 && x.args[0] != one {
			t.Error("an argument has changed")
		}
	}
}
