package state_test

import (
	"slices"
	"strconv"
	"testing"

	"proteus/api"
	"proteus/ops"
	"proteus/site"
	"proteus/state"
	"proteus/text"
	"proteus/value"
)

var null api.Value

func integer(n int) api.Value { return api.Value{Kind: api.Int, N: n} }

func quoted(s string) api.Value { return api.Value{Kind: api.Str, S: s} }

func obj(n int) api.Value { return api.Value{Kind: api.Obj, N: n} }

func fun(n int) api.Value { return api.Value{Kind: api.Fun, N: n} }

func truth(is bool) api.Value {
	if is {
		return api.Value{Kind: api.Bool, N: 1}
	}
	return api.Value{Kind: api.Bool}
}

// machine is what a state is asked that does not hang on shapes.
type machine interface {
	Tick(n int) bool
	Make() (api.Value, bool)
	Get(f, site int, o api.Value, name string) (api.Value, bool)
	Set(f, site int, o api.Value, name string, v api.Value) bool
	GetIx(o, k api.Value) (api.Value, bool)
	SetIx(o, k, v api.Value) bool
	Del(o api.Value, name string) bool
	DelIx(o, k api.Value) bool
	Un(op int, v api.Value) (api.Value, bool)
	Bin(op int, a, b api.Value) (api.Value, bool)
	Built(op int, args []api.Value) (api.Value, bool)
	Print(v api.Value) bool
	Global(i int) api.Value
	SetGlobal(i int, v api.Value) bool
	Enter(v api.Value) bool
	Leave()
	Finish(v api.Value)
	Over() bool
	Outcome() api.Outcome
	Steps() int
	Touched() []int
	Dump() string
}

// thing is an object of the model.
type thing struct {
	names  []string
	values []api.Value
	proto  int
}

// model is the chapter's words, done on lists.
type model struct {
	objects, depth, props, str int
	fuel, steps, calls         int
	things                     []*thing
	globals                    []api.Value
	out                        []string
	touched                    []int
	over                       bool
	kind                       int
	err                        api.Errno
	last                       string
}

func cutTo(n, most int) int {
	switch {
	case n < 0:
		return 0
	case n > most:
		return most
	}
	return n
}

func newModel(globals, fuel int, l api.Limits) *model {
	return &model{
		objects: cutTo(l.Objects, 200), depth: cutTo(l.Depth, 50), props: cutTo(l.Props, 32), str: cutTo(l.Str, 256),
		fuel: cutTo(fuel, 1<<20), globals: make([]api.Value, cutTo(globals, 24)),
	}
}

// fail is where it fails with an error.
func (m *model) fail(e api.Errno) bool {
	if m.over {
		return false
	}
	m.over, m.err, m.kind = true, e, 3
	if e >= 40 && e <= 43 {
		m.kind = 5
	}
	if e == 44 {
		m.kind = 4
	}
	return false
}

func (m *model) at(o int) *thing {
	if o < 1 || o > len(m.things) {
		return nil
	}
	return m.things[o-1]
}

func (m *model) own(o int, name string) int {
	if m.at(o) == nil {
		return -1
	}
	return slices.Index(m.at(o).names, name)
}

func (m *model) isObj(v api.Value) bool { return v.Kind == 4 }

func (m *model) Tick(n int) bool {
	if m.over {
		return false
	}
	for ; n > 0; n-- {
		if m.steps == m.fuel {
			return m.fail(44)
		}
		m.steps++
	}
	return true
}

func (m *model) Make() (api.Value, bool) {
	if m.over {
		return null, false
	}
	if len(m.things) == m.objects {
		return null, m.fail(40)
	}
	m.things = append(m.things, &thing{})
	return obj(len(m.things)), true
}

func (m *model) Get(f, site int, o api.Value, name string) (api.Value, bool) {
	if m.over {
		return null, false
	}
	if !m.isObj(o) {
		return null, m.fail(30)
	}
	for at := o.N; m.at(at) != nil; at = m.at(at).proto {
		if i := m.own(at, name); i >= 0 {
			return m.at(at).values[i], true
		}
	}
	return null, true
}

func (m *model) Set(f, site int, o api.Value, name string, v api.Value) bool {
	if m.over {
		return false
	}
	if !m.isObj(o) {
		return m.fail(30)
	}
	x := m.at(o.N)
	if x == nil {
		return m.fail(4)
	}
	if i := m.own(o.N, name); i >= 0 {
		x.values[i] = v
		return true
	}
	if len(x.names) == m.props {
		return m.fail(42)
	}
	x.names, x.values = append(x.names, name), append(x.values, v)
	m.touched = append(m.touched, o.N)
	return true
}

func (m *model) Del(o api.Value, name string) bool {
	if m.over {
		return false
	}
	if !m.isObj(o) {
		return m.fail(30)
	}
	if i := m.own(o.N, name); i >= 0 {
		x := m.at(o.N)
		x.names, x.values = slices.Delete(x.names, i, i+1), slices.Delete(x.values, i, i+1)
		m.touched = append(m.touched, o.N)
	}
	return true
}

func (m *model) GetIx(o, k api.Value) (api.Value, bool) {
	if k.Kind != 3 {
		return null, m.fail(30)
	}
	return m.Get(0, 0, o, k.S)
}

func (m *model) SetIx(o, k, v api.Value) bool {
	if k.Kind != 3 {
		return m.fail(30)
	}
	return m.Set(0, 0, o, k.S, v)
}

func (m *model) DelIx(o, k api.Value) bool {
	if k.Kind != 3 {
		return m.fail(30)
	}
	return m.Del(o, k.S)
}

// sum is a value that comes with an error, or with none.
func (m *model) sum(v api.Value, e api.Errno) (api.Value, bool) {
	if m.over {
		return null, false
	}
	if e != 0 {
		return null, m.fail(e)
	}
	return v, true
}

func (m *model) Un(op int, v api.Value) (api.Value, bool) { return m.sum(ops.Un(op, v)) }

func (m *model) Bin(op int, a, b api.Value) (api.Value, bool) {
	return m.sum(ops.Bin(op, a, b, m.str))
}

func (m *model) Built(op int, args []api.Value) (api.Value, bool) {
	if op < 1 || op > 7 || len(args) != []int{1, 2, 2, 1, 2, 1, 1}[op-1] {
		return m.sum(null, 2)
	}
	if op == 6 {
		return m.sum(ops.Len(args[0]))
	}
	if op == 7 {
		return m.sum(ops.Text(args[0], m.str))
	}
	second := map[int][]int{2: {2}, 3: {3}, 5: {0, 4}}[op]
	if !m.isObj(args[0]) || second != nil && !slices.Contains(second, args[1].Kind) {
		return m.sum(null, 30)
	}
	if m.over {
		return null, false
	}
	return m.sum(m.ofObject(op, args))
}

func (m *model) ofObject(op int, args []api.Value) (api.Value, api.Errno) {
	o := args[0].N
	x := m.at(o)
	switch {
	case op == 1 && x == nil:
		return integer(0), 0
	case op == 1:
		return integer(len(x.names)), 0
	case op == 2 && x != nil && args[1].N >= 0 && args[1].N < len(x.names):
		return quoted(x.names[args[1].N]), 0
	case op == 3:
		return truth(m.own(o, args[1].S) >= 0), 0
	case op == 4 && x != nil && x.proto > 0:
		return obj(x.proto), 0
	case op == 5:
		return args[0], m.turn(o, args[1])
	}
	return null, 0
}

// turn gives an object another prototype.
func (m *model) turn(o int, v api.Value) api.Errno {
	p := v.N
	if v.Kind == 0 {
		p = 0
	}
	if m.at(o) == nil || p != 0 && m.at(p) == nil {
		return 4
	}
	for at := p; at != 0; at = m.at(at).proto {
		if at == o {
			return 32
		}
	}
	m.at(o).proto = p
	m.touched = append(m.touched, o)
	return 0
}

func (m *model) Print(v api.Value) bool {
	if m.over {
		return false
	}
	m.out = append(m.out, value.Show(v))
	return true
}

func (m *model) Global(i int) api.Value {
	if m.over || i < 0 || i >= len(m.globals) {
		return null
	}
	return m.globals[i]
}

func (m *model) SetGlobal(i int, v api.Value) bool {
	if m.over || i < 0 || i >= len(m.globals) {
		return false
	}
	m.globals[i] = v
	return true
}

func (m *model) Enter(v api.Value) bool {
	switch {
	case m.over:
		return false
	case v.Kind != 5:
		return m.fail(30)
	case m.calls == m.depth:
		return m.fail(41)
	}
	m.calls++
	return true
}

func (m *model) Leave() {
	if !m.over && m.calls > 0 {
		m.calls--
	}
}

func (m *model) Finish(v api.Value) {
	if !m.over {
		m.over, m.kind, m.last = true, 2, value.Show(v)
	}
}

func (m *model) Over() bool { return m.over }

func (m *model) Outcome() api.Outcome {
	if !m.over {
		return api.Outcome{}
	}
	return api.Outcome{Kind: m.kind, Err: m.err, Out: m.out, V: m.last}
}

func (m *model) Steps() int { return m.steps }

func (m *model) Touched() []int {
	l := m.touched
	m.touched = nil
	return l
}

func (m *model) Dump() string {
	s := ""
	for i, x := range m.things {
		s += "#" + strconv.Itoa(i+1) + " #" + strconv.Itoa(x.proto)
		for j, name := range x.names {
			s += " " + name + ":" + value.Print(x.values[j])
		}
		s += "\n"
	}
	s += "G"
	for _, v := range m.globals {
		s += " " + value.Print(v)
	}
	s += "\n"
	for _, p := range m.out {
		s += "P " + text.Quote(p) + "\n"
	}
	return s + "S " + strconv.Itoa(m.steps) + "\n"
}

// crowd are states of all kinds of shapes and sites, with the model at their side.
type crowd struct {
	m      *model
	states []*state.State
}

// tables are some that are alike in nothing.
func tables() []*site.Table {
	return []*site.Table{nil, {}, site.New(nil), site.New([]int{1}), site.New([]int{3, 0, -1, 5})}
}

func newCrowd(globals, fuel int, l api.Limits) *crowd {
	c := &crowd{m: newModel(globals, fuel, l)}
	for i, x := range tables() {
		c.states = append(c.states, state.New(globals, fuel, l, []int{150, 3, 0, 150, 12}[i], x))
		if i > 2 {
			c.states = append(c.states, state.New(globals, fuel, l, []int{-1, 1 << 40}[i-3], site.New([]int{2, 2})))
		}
	}
	return c
}

// greatest are limits that are as high as they can be.
var greatest = api.Limits{Objects: 200, Depth: 50, Props: 32, Str: 256}

func roomy() *crowd { return newCrowd(3, 1<<20, greatest) }

// told is an outcome as text.
func told(o api.Outcome) string {
	s := strconv.Itoa(o.Kind) + " " + strconv.Itoa(int(o.Err)) + " " + strconv.Itoa(o.At) + " " + strconv.Quote(o.V)
	for _, p := range o.Out {
		s += " " + strconv.Quote(p)
	}
	return s
}

// answered is what a call that answers a value answers.
type answered struct {
	v  api.Value
	is bool
}

func with(v api.Value, is bool) answered { return answered{v, is} }

// do does one thing to all; what they answer must be alike, and is answered.
func (c *crowd) do(t *testing.T, deed func(m machine) any) any {
	t.Helper()
	want := deed(c.m)
	for i, s := range c.states {
		if got := deed(s); got != want {
			t.Fatalf("state %d answers %v, not %v", i, got, want)
		}
	}
	return want
}

// value and truth do what a call asks, and hold what it answers.
func (c *crowd) value(t *testing.T, v api.Value, is bool, deed func(m machine) (api.Value, bool)) {
	t.Helper()
	if got := c.do(t, func(m machine) any { return with(deed(m)) }); got != (answered{v, is}) {
		t.Fatalf("it answers %v, not %v, %v", got, v, is)
	}
	c.hold(t)
}

func (c *crowd) truth(t *testing.T, is bool, deed func(m machine) bool) {
	t.Helper()
	if got := c.do(t, func(m machine) any { return deed(m) }); got != is {
		t.Fatalf("it answers %v, not %v", got, is)
	}
	c.hold(t)
}

func (c *crowd) quiet(t *testing.T, deed func(m machine)) {
	t.Helper()
	c.do(t, func(m machine) any { deed(m); return nil })
	c.hold(t)
}

// objects makes some.
func (c *crowd) objects(t *testing.T, n int) {
	t.Helper()
	for range n {
		c.value(t, obj(len(c.m.things)+1), true, machine.Make)
	}
}

func (c *crowd) set(t *testing.T, o int, name string, v api.Value) {
	t.Helper()
	c.truth(t, true, func(m machine) bool { return m.Set(0, 0, obj(o), name, v) })
}

func (c *crowd) under(t *testing.T, o, p int) {
	t.Helper()
	c.value(t, obj(o), true, func(m machine) (api.Value, bool) { return m.Built(api.BSetProto, []api.Value{obj(o), obj(p)}) })
}

// hold asks all that does not change what is there, but for Touched.
func (c *crowd) hold(t *testing.T) {
	t.Helper()
	c.do(t, func(m machine) any {
		s := told(m.Outcome()) + "\n" + m.Dump() + strconv.Itoa(m.Steps()) + strconv.FormatBool(m.Over())
		for i := range 26 {
			s += " " + value.Print(m.Global(i-1))
		}
		return s
	})
	for i, s := range c.states {
		if n := s.Heap().Len(); n != len(c.m.things) {
			t.Fatalf("state %d has %d objects, not %d", i, n, len(c.m.things))
		}
	}
}

// touched says by hand what Touched is, and that it is nothing, asked again.
func (c *crowd) touched(t *testing.T, l ...int) {
	t.Helper()
	want := list(l)
	if got := c.do(t, func(m machine) any { return list(m.Touched()) }); got != want {
		t.Errorf("touched are%s, not%s", got, want)
	}
	c.do(t, func(m machine) any { return list(m.Touched()) })
	if c.m.touched != nil || len(c.states[0].Touched()) != 0 {
		t.Error("some are told twice")
	}
}

func list(l []int) string {
	s := ""
	for _, n := range l {
		s += " " + strconv.Itoa(n)
	}
	return s
}

// ends says by hand how it is over.
func (c *crowd) ends(t *testing.T, kind int, e api.Errno) {
	t.Helper()
	for _, s := range c.states {
		if o := s.Outcome(); !s.Over() || o.Kind != kind || o.Err != e || o.At != 0 || kind != api.Done && o.V != "" {
			t.Fatalf("it is %v, %s", s.Over(), told(o))
		}
	}
	c.dead(t)
}

// dead asks everything of what is over: nothing changes any more.
func (c *crowd) dead(t *testing.T) {
	t.Helper()
	for range 2 {
		before := c.m.Dump() + told(c.m.Outcome())
		for _, deed := range allDeeds() {
			c.do(t, deed)
		}
		c.hold(t)
		for _, s := range c.states {
			if after := s.Dump() + told(s.Outcome()); after != before {
				t.Fatalf("it was\n%s\nand is\n%s", before, after)
			}
			if s.Grow(obj(1), 2, null) || s.Grow(integer(1), 2, null) {
				t.Fatal("it grows")
			}
		}
	}
}

// falseNull is what each call answers that a value comes of, where it is over.
var falseNull = answered{}

// allDeeds are calls each of which does something, or fails, where it goes on; where it is over, all answer false, and a Null.
func allDeeds() []func(m machine) any {
	one := []api.Value{obj(1)}
	return []func(m machine) any{
		func(m machine) any { return m.Tick(0) },
		func(m machine) any { return m.Tick(1) },
		func(m machine) any { return m.Tick(-1) },
		func(m machine) any { return m.Tick(1 << 30) },
		func(m machine) any { return with(m.Make()) },
		func(m machine) any { return with(m.Get(0, 0, obj(1), "a")) },
		func(m machine) any { return with(m.Get(0, 0, integer(1), "a")) },
		func(m machine) any { return m.Set(0, 0, obj(1), "a", integer(77)) },
		func(m machine) any { return m.Set(0, 0, obj(1), "dead", integer(77)) },
		func(m machine) any { return with(m.GetIx(obj(1), quoted("a"))) },
		func(m machine) any { return m.SetIx(obj(1), quoted("a"), integer(78)) },
		func(m machine) any { return m.SetIx(obj(1), quoted("dead"), integer(78)) },
		func(m machine) any { return m.Del(obj(1), "a") },
		func(m machine) any { return m.Del(obj(1), "nothing") },
		func(m machine) any { return m.DelIx(obj(1), quoted("a")) },
		func(m machine) any { return with(m.Un(api.Neg, integer(1))) },
		func(m machine) any { return with(m.Un(9, integer(1))) },
		func(m machine) any { return with(m.Bin(api.Add, integer(1), integer(2))) },
		func(m machine) any { return with(m.Bin(api.Div, integer(1), integer(0))) },
		func(m machine) any { return with(m.Built(api.BCount, one)) },
		func(m machine) any { return with(m.Built(api.BSetProto, append(one, null))) },
		func(m machine) any { return with(m.Built(api.BSetProto, append(one, obj(1)))) },
		func(m machine) any { return with(m.Built(99, one)) },
		func(m machine) any { return m.Print(integer(5)) },
		func(m machine) any { return m.Global(0) },
		func(m machine) any { return m.SetGlobal(0, integer(99)) },
		func(m machine) any { return m.Enter(fun(0)) },
		func(m machine) any { return m.Enter(null) },
		func(m machine) any { m.Leave(); return nil },
		func(m machine) any { m.Finish(integer(55)); return nil },
	}
}
