package site

import (
	"maps"
	"slices"

	"proteus/api"
	"proteus/heap"
)

// function is a function's sites. Those that nothing has come to have no cell: there may be more of them than there is room for.
type function struct {
	count int
	mega  bool // all are Mega, whatever the cells say
	cells map[int]*cell
}

// has asks whether there is such a site; of no function there is none.
func (f *function) has(site int) bool { return f != nil && site >= 0 && site < f.count }

// at is a site's cell; one that is not the function's yet, where nothing has come to it, or all are Mega.
func (f *function) at(site int) *cell {
	if f.mega {
		return &cell{mega: true}
	}
	if c, there := f.cells[site]; there {
		return c
	}
	return &cell{}
}

// part is the cell of a site that is used so, and that its first use fixes; nil, if it plays no part, or is Mega.
func (f *function) part(site int, u use) *cell {
	c := f.at(site)
	if !c.fixed && !c.mega {
		c.use, c.fixed = u, true
		f.put(site, c)
	}
	if c.mega || c.use != u {
		return nil
	}
	return c
}

func (f *function) put(site int, c *cell) {
	if f.cells == nil {
		f.cells = map[int]*cell{}
	}
	f.cells[site] = c
}

// flush lets go of all cells, but those that are Mega.
func (f *function) flush() {
	maps.DeleteFunc(f.cells, func(_ int, c *cell) bool { return !c.mega })
}

// turn makes all sites Mega, for good: no cell is needed any more.
func (f *function) turn() { f.mega, f.cells = true, nil }

// use is what a site can be fixed to.
type use struct {
	name string
	sets bool
}

// cell is a site. One that is Mega has nothing else.
type cell struct {
	use
	fixed, mega bool
	entries     []kept
}

// find is the place of the entry for a shape of a heap; -1, if there is none.
func (c *cell) find(of heap.Heap, shape int) int {
	return slices.IndexFunc(c.entries, func(k kept) bool { return k.of == of && k.Shape == shape })
}

// known is the entry for an object, which is of a shape; a cell that is not there has none.
func (c *cell) known(h *heap.Heap, o int) (kept, bool) {
	if c == nil {
		return kept{}, false
	}
	i := c.find(*h, h.Shape(o))
	if i < 0 {
		return kept{}, false
	}
	return c.entries[i], true
}

// keepFound keeps what a get of an object finds, if that can be kept.
func (c *cell) keepFound(h *heap.Heap, o int, name string) {
	if k, is := seek(h, o, name); is {
		c.keep(k)
	}
}

// keep puts an entry in the place of the one for its shape, or behind all others.
func (c *cell) keep(k kept) {
	if i := c.find(k.of, k.Shape); i >= 0 {
		c.entries[i] = k
		return
	}
	entries, fits := longer(c.entries, k, api.MaxPoly)
	if !fits {
		*c = cell{mega: true}
		return
	}
	c.entries = entries
}

// longer is a list with one thing more; false, if it has as many as it may.
func longer[T any](list []T, x T, most int) ([]T, bool) {
	if len(list) >= most {
		return nil, false
	}
	return append(list, x), true
}

// state tells the entries as memory of their own.
func (c *cell) state() (int, []Entry) {
	if c.mega {
		return Mega, nil
	}
	var out []Entry
	for _, k := range c.entries {
		e := k.Entry
		e.Deps = slices.Clone(e.Deps)
		out = append(out, e)
	}
	return min(len(out), Poly), out
}

func (c *cell) told() (string, bool, bool) { return c.name, c.sets, c.fixed }
