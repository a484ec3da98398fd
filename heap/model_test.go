package heap_test

import (
	"math"
	"slices"
	"strconv"
	"strings"
	"testing"

	"proteus/api"
	"proteus/heap"
	"proteus/value"
)

const (
	maxObjects = 200
	maxProps   = 32
	maxSlots   = 12
	maxShapes  = 150
)

func integer(n int) api.Value { return api.Value{Kind: api.Int, N: n} }
func str(s string) api.Value  { return api.Value{Kind: api.Str, S: s} }

// pair is a property of the model.
type pair struct {
	name string
	v    api.Value
}

// plain is an object of the model: a list of properties; its shape is a number beside it.
type plain struct {
	proto, epoch, shape int
	list                []pair
}

func (p *plain) find(name string) int {
	return slices.IndexFunc(p.list, func(x pair) bool { return x.name == name })
}

func (p *plain) names() []string {
	var out []string
	for _, x := range p.list {
		out = append(out, x.name)
	}
	return out
}

// class is a shape of the model.
type class struct {
	proto int
	names []string
}

// model is the chapter's words, done on plain lists.
type model struct {
	objects, props, room int
	classes              []class
	all                  []*plain
}

func cut(n, most int) int { return min(max(n, 0), most) }

func newModel(l api.Limits, shapes int) *model {
	return &model{objects: cut(l.Objects, maxObjects), props: cut(l.Props, maxProps), room: cut(shapes, maxShapes)}
}

func (m *model) at(o int) *plain {
	if o < 1 || o > len(m.all) {
		return nil
	}
	return m.all[o-1]
}

func (m *model) class(id int) *class {
	if id < 1 || id > len(m.classes) {
		return nil
	}
	return &m.classes[id-1]
}

// reach is the number of a shape that is there from then on; 0, if there is no room for it.
func (m *model) reach(proto int, names []string) int {
	id := 1 + slices.IndexFunc(m.classes, func(c class) bool { return c.proto == proto && slices.Equal(c.names, names) })
	if id == 0 && len(m.classes) < m.room {
		m.classes = append(m.classes, class{proto, slices.Clone(names)})
		id = len(m.classes)
	}
	return id
}

func (m *model) next(id int, name string) int {
	c := m.class(id)
	if c == nil || len(c.names) == maxSlots || slices.Contains(c.names, name) {
		return 0
	}
	return m.reach(c.proto, append(slices.Clone(c.names), name))
}

func (m *model) move(id, proto int) int {
	names := slices.Clone(m.classes[id-1].names)
	to := m.reach(proto, nil)
	for _, name := range names {
		if to > 0 {
			to = m.next(to, name)
		}
	}
	return to
}

func (m *model) slotOf(id int, name string) int {
	if c := m.class(id); c != nil {
		return slices.Index(c.names, name)
	}
	return -1
}

func (m *model) parent(id int) int {
	c := m.class(id)
	if c == nil || len(c.names) == 0 {
		return 0
	}
	return m.reach(c.proto, c.names[:len(c.names)-1])
}

func (m *model) make() (int, api.Errno) {
	if len(m.all) == m.objects {
		return 0, api.LimObjects
	}
	m.all = append(m.all, &plain{shape: m.reach(0, nil)})
	return len(m.all), api.OK
}

func (m *model) get(o int, name string) api.Value {
	for p := m.at(o); p != nil; p = m.at(p.proto) {
		if i := p.find(name); i >= 0 {
			return p.list[i].v
		}
	}
	return api.Value{}
}

func (m *model) set(o int, name string, v api.Value) api.Errno {
	p := m.at(o)
	if p == nil {
		return api.ErrNone
	}
	if i := p.find(name); i >= 0 {
		p.list[i].v = v
		return api.OK
	}
	if len(p.list) == m.props {
		return api.LimProps
	}
	p.list = append(p.list, pair{name, v})
	p.shape = m.next(p.shape, name)
	p.epoch++
	return api.OK
}

func (m *model) drop(o int, name string) bool {
	p := m.at(o)
	if p == nil || p.find(name) < 0 {
		return false
	}
	i := p.find(name)
	p.list = slices.Delete(slices.Clone(p.list), i, i+1)
	p.shape = 0
	p.epoch++
	return true
}

// chain is the numbers of an object's, from itself on.
func (m *model) chain(o int) []int {
	var out []int
	for ; m.at(o) != nil; o = m.at(o).proto {
		out = append(out, o)
	}
	return out
}

func (m *model) setProto(o, to int) api.Errno {
	p := m.at(o)
	if p == nil || to != 0 && m.at(to) == nil {
		return api.ErrNone
	}
	if slices.Contains(m.chain(to), o) {
		return api.ErrCycle
	}
	p.proto = to
	if p.shape > 0 {
		p.shape = m.move(p.shape, to)
	}
	p.epoch++
	return api.OK
}

func (m *model) put(o, i int, v api.Value) bool {
	p := m.at(o)
	if p == nil || p.shape == 0 || i < 0 || i >= len(p.list) {
		return false
	}
	p.list[i].v = v
	return true
}

func (m *model) grow(o, to int, v api.Value) api.Errno {
	p := m.at(o)
	switch {
	case p == nil:
		return api.ErrNone
	case p.shape == 0 || m.parent(to) != p.shape:
		return api.ErrArg
	case len(p.list) == m.props:
		return api.LimProps
	}
	names := m.class(to).names
	p.list = append(p.list, pair{names[len(names)-1], v})
	p.shape = to
	p.epoch++
	return api.OK
}

func (m *model) dump() string {
	var b strings.Builder
	for i, p := range m.all {
		b.WriteString("#" + strconv.Itoa(i+1) + " #" + strconv.Itoa(p.proto))
		for _, x := range p.list {
			b.WriteString(" " + x.name + ":" + value.Print(x.v))
		}
		b.WriteByte(10)
	}
	return b.String()
}

// noNumbers are numbers below 1 and above n, near and far.
func noNumbers(n int) []int {
	return []int{0, -1, -2, -n, -n - 1, n + 1, n + 2, 2*n + 1, maxObjects + 1, math.MaxInt, math.MaxInt - 1, math.MinInt, math.MinInt + 1, 1 << 32, 1<<32 + 1}
}

// outside are numbers that are not from 0 to n - 1.
func outside(n int) []int {
	return []int{-1, -2, -n - 1, n, n + 1, 2*n + 1, maxSlots + n, math.MaxInt, math.MinInt, 1 << 32, -1 << 32}
}

// twin is a Heap and its model.
type twin struct {
	h *heap.Heap
	m *model
}

func newTwin(objects, props, shapes int) *twin {
	l := api.Limits{Objects: objects, Props: props}
	return &twin{heap.New(l, shapes), newModel(l, shapes)}
}

// roomy is one with all the room that there may be, and so many objects.
func roomy(t *testing.T, objects int) *twin {
	t.Helper()
	w := newTwin(maxObjects, maxProps, maxShapes)
	w.makes(t, objects)
	return w
}

func (w *twin) make(t *testing.T) int {
	t.Helper()
	want, err := w.m.make()
	if o, e := w.h.Make(); o != want || e != err {
		t.Fatalf("Make is %d, %v, not %d, %v", o, e, want, err)
	}
	return want
}

func (w *twin) makes(t *testing.T, n int) {
	t.Helper()
	for range n {
		w.make(t)
	}
}

func (w *twin) set(t *testing.T, o int, name string, v api.Value) api.Errno {
	t.Helper()
	want := w.m.set(o, name, v)
	if e := w.h.Set(o, name, v); e != want {
		t.Fatalf("Set(%d, %q) is %v, not %v", o, name, e, want)
	}
	return want
}

// sets gives an object several properties, with values 0, 1 and so on.
func (w *twin) sets(t *testing.T, o int, names ...string) {
	t.Helper()
	for i, name := range names {
		if e := w.set(t, o, name, integer(i)); e != api.OK {
			t.Fatalf("Set(%d, %q) is %v", o, name, e)
		}
	}
}

func (w *twin) drop(t *testing.T, o int, name string) bool {
	t.Helper()
	want := w.m.drop(o, name)
	if got := w.h.Delete(o, name); got != want {
		t.Fatalf("Delete(%d, %q) is %v, not %v", o, name, got, want)
	}
	return want
}

func (w *twin) setProto(t *testing.T, o, p int) api.Errno {
	t.Helper()
	want := w.m.setProto(o, p)
	if e := w.h.SetProto(o, p); e != want {
		t.Fatalf("SetProto(%d, %d) is %v, not %v", o, p, e, want)
	}
	return want
}

func (w *twin) put(t *testing.T, o, i int, v api.Value) bool {
	t.Helper()
	want := w.m.put(o, i, v)
	if got := w.h.Put(o, i, v); got != want {
		t.Fatalf("Put(%d, %d) is %v, not %v", o, i, got, want)
	}
	return want
}

func (w *twin) next(t *testing.T, id int, name string) int {
	t.Helper()
	want := w.m.next(id, name)
	if got := w.h.Next(id, name); got != want {
		t.Fatalf("Next(%d, %q) is %d, not %d", id, name, got, want)
	}
	return want
}

func (w *twin) grow(t *testing.T, o, to int, v api.Value) api.Errno {
	t.Helper()
	want := w.m.grow(o, to, v)
	if e := w.h.Grow(o, to, v); e != want {
		t.Fatalf("Grow(%d, %d) is %v, not %v", o, to, e, want)
	}
	return want
}

// hold asks all that can be asked without a change: twice, so that a change would show.
func (w *twin) hold(t *testing.T, more ...string) {
	t.Helper()
	names := append([]string{"", "none", "x"}, more...)
	for range 2 {
		if n := w.h.Len(); n != len(w.m.all) {
			t.Fatalf("Len is %d, not %d", n, len(w.m.all))
		}
		if got, want := w.h.Dump(), w.m.dump(); got != want {
			t.Fatalf("Dump is %q, not %q", got, want)
		}
		for i, p := range w.m.all {
			w.holdObject(t, i+1, p, names)
		}
		for id := range w.m.classes {
			w.holdClass(t, id+1, names)
		}
		for _, o := range noNumbers(len(w.m.all)) {
			holdNone(t, w.h, o, names)
		}
		for _, id := range noNumbers(len(w.m.classes)) {
			holdNoShape(t, w.h, id, names)
		}
	}
}

func (w *twin) holdObject(t *testing.T, o int, p *plain, names []string) {
	t.Helper()
	if got := w.h.Count(o); got != len(p.list) {
		t.Fatalf("Count(%d) is %d, not %d", o, got, len(p.list))
	}
	if a, b := w.h.Proto(o), w.h.Epoch(o); a != p.proto || b != p.epoch {
		t.Fatalf("of %d, Proto is %d, not %d; Epoch is %d, not %d", o, a, p.proto, b, p.epoch)
	}
	if got := w.h.Shape(o); got != p.shape {
		t.Fatalf("Shape(%d) is %d, not %d", o, got, p.shape)
	}
	for i, x := range p.list {
		if s, is := w.h.Key(o, i); s != x.name || !is {
			t.Fatalf("Key(%d, %d) is %q, %v, not %q", o, i, s, is, x.name)
		}
		if v, is := w.h.Own(o, x.name); v != x.v || !is {
			t.Fatalf("Own(%d, %q) is %v, %v, not %v", o, x.name, v, is, x.v)
		}
		if v := w.h.Get(o, x.name); v != x.v {
			t.Fatalf("Get(%d, %q) is %v, not %v", o, x.name, v, x.v)
		}
	}
	for _, i := range outside(len(p.list)) {
		if s, is := w.h.Key(o, i); s != "" || is {
			t.Fatalf("Key(%d, %d) is %q, %v", o, i, s, is)
		}
	}
	w.holdSlots(t, o, p)
	for _, c := range w.m.chain(o) {
		names = append(slices.Clone(names), w.m.at(c).names()...)
	}
	w.holdNames(t, o, p, names)
}

// holdSlots asks all slots of an object that is of a shape, and, of one that is not, that it has none.
func (w *twin) holdSlots(t *testing.T, o int, p *plain) {
	t.Helper()
	for i, x := range p.list {
		want, has := x.v, true
		if p.shape == 0 {
			want, has = api.Value{}, false
		}
		if v, is := w.h.Slot(o, i); v != want || is != has {
			t.Fatalf("Slot(%d, %d) is %v, %v, not %v, %v", o, i, v, is, want, has)
		}
	}
	for _, i := range outside(len(p.list)) {
		if v, is := w.h.Slot(o, i); v != (api.Value{}) || is {
			t.Fatalf("Slot(%d, %d) is %v, %v", o, i, v, is)
		}
	}
}

func (w *twin) holdNames(t *testing.T, o int, p *plain, names []string) {
	t.Helper()
	for _, name := range names {
		if v := w.h.Get(o, name); v != w.m.get(o, name) {
			t.Fatalf("Get(%d, %q) is %v, not %v", o, name, v, w.m.get(o, name))
		}
		if p.find(name) >= 0 {
			continue
		}
		if v, is := w.h.Own(o, name); v != (api.Value{}) || is {
			t.Fatalf("Own(%d, %q) is %v, %v", o, name, v, is)
		}
	}
}

func (w *twin) holdClass(t *testing.T, id int, names []string) {
	t.Helper()
	for _, name := range append(slices.Clone(names), w.m.class(id).names...) {
		if got, want := w.h.SlotOf(id, name), w.m.slotOf(id, name); got != want {
			t.Fatalf("SlotOf(%d, %q) is %d, not %d", id, name, got, want)
		}
	}
}

// holdNone asks all, without a change, of a number that is no object's.
func holdNone(t *testing.T, h *heap.Heap, o int, names []string) {
	t.Helper()
	for _, name := range names {
		v, is := h.Own(o, name)
		if g := h.Get(o, name); v != (api.Value{}) || is || g != v {
			t.Fatalf("Own(%d, %q) is %v, %v, Get %v", o, name, v, is, g)
		}
		if h.Delete(o, name) {
			t.Fatalf("Delete(%d, %q)", o, name)
		}
	}
	if p, n, s, e := h.Proto(o), h.Count(o), h.Shape(o), h.Epoch(o); p != 0 || n != 0 || s != 0 || e != 0 {
		t.Fatalf("of %d, Proto, Count, Shape and Epoch are %d, %d, %d, %d", o, p, n, s, e)
	}
	for _, i := range append(outside(1), 0, o) {
		if s, is := h.Key(o, i); s != "" || is {
			t.Fatalf("Key(%d, %d) is %q, %v", o, i, s, is)
		}
		if v, is := h.Slot(o, i); v != (api.Value{}) || is {
			t.Fatalf("Slot(%d, %d) is %v, %v", o, i, v, is)
		}
		if h.Put(o, i, integer(1)) {
			t.Fatalf("Put(%d, %d)", o, i)
		}
	}
}

// holdNoShape asks all of a number that is no shape's.
func holdNoShape(t *testing.T, h *heap.Heap, id int, names []string) {
	t.Helper()
	for _, name := range names {
		if got := h.SlotOf(id, name); got != -1 {
			t.Fatalf("SlotOf(%d, %q) is %d", id, name, got)
		}
		if got := h.Next(id, name); got != 0 {
			t.Fatalf("Next(%d, %q) is %d", id, name, got)
		}
	}
}
