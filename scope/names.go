package scope

import "proteus/api"

// fault is an error, and the At of the node that is named for it.
type fault struct {
	at    int
	errno api.Errno
}

func (f fault) found() bool { return f.errno != api.OK }

// names is what a function declares, and which number each has.
type names map[string]int

// declare gives a name the next number.
func (d names) declare(s string) api.Errno {
	if _, known := d[s]; known {
		return api.ErrTwice
	}
	if len(d) == api.MaxVars {
		return api.ErrFull
	}
	d[s] = len(d)
	return api.OK
}

// params declares those of an EFn.
func (d names) params(fn api.Node) fault {
	for _, s := range fn.Names {
		if e := d.declare(s); e != api.OK {
			return fault{fn.At, e}
		}
	}
	return fault{}
}

// lets declares what the SLets among statements do, and in their blocks. Expressions are left out: an SLet in one is another function's.
func (d names) lets(l []api.Node) fault {
	for _, n := range l {
		f := fault{}
		switch n.Kind {
		case api.SLet:
			f = fault{n.At, d.declare(n.S)}
		case api.SIf, api.SWhile, api.SBlock:
			f = d.lets(n.Kids)
		}
		if f.found() {
			return f
		}
	}
	return fault{}
}
