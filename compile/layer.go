package compile

import "proteus/api"

// pool gives strings their numbers, in the order in which they first come.
type pool struct {
	numbers map[string]int
	texts   []string
}

func (p *pool) number(s string) int {
	n, known := p.numbers[s]
	if !known {
		n = len(p.texts)
		p.numbers[s] = n
		p.texts = append(p.texts, s)
	}
	return n
}

// layer lays the instructions of one function, one behind the other.
type layer struct {
	strings *pool // one for all functions
	ins     []api.Instr
	sites   int
}

func (l *layer) lay(op, a int) {
	l.ins = append(l.ins, api.Instr{Op: op, A: a})
}

// laySite lays one of a property, which has a site of its own.
func (l *layer) laySite(op int, name string) {
	l.ins = append(l.ins, api.Instr{Op: op, A: l.strings.number(name), B: l.sites})
	l.sites++
}

// leap lays one that goes to a place which is not known yet; once that comes next, what is answered is called, and fills it in.
func (l *layer) leap(op int) (land func()) {
	at := len(l.ins)
	l.lay(op, 0)
	return func() { l.ins[at].A = len(l.ins) }
}

func (l *layer) nodes(list []api.Node) {
	for _, n := range list {
		l.node(n)
	}
}

// node lays what comes of one, and of all within it.
func (l *layer) node(n api.Node) {
	l.lay(api.Tick, 1)
	switch n.Kind {
	case api.EObj:
		l.object(n)
	case api.EAnd:
		l.either(api.KeepAnd, n)
	case api.EOr:
		l.either(api.KeepOr, n)
	case api.EMeth:
		l.method(n)
	case api.SIf:
		l.choice(n)
	case api.SWhile:
		l.loop(n)
	default:
		l.nodes(n.Kids)
		l.behind(n)
	}
}

func (l *layer) object(n api.Node) {
	l.lay(api.NewObj, 0)
	for i, k := range n.Kids {
		l.node(k)
		l.laySite(api.Init, n.Names[i])
	}
}

// either leaps over the second one with the value of the first one kept.
func (l *layer) either(keep int, n api.Node) {
	l.node(n.Kids[0])
	land := l.leap(keep)
	l.node(n.Kids[1])
	land()
}

// method looks up what is called ahead of the arguments.
func (l *layer) method(n api.Node) {
	l.node(n.Kids[0])
	l.laySite(api.Meth, n.S)
	l.nodes(n.Kids[1:])
	l.lay(api.CallM, len(n.Kids)-1)
}

func (l *layer) choice(n api.Node) {
	l.node(n.Kids[0])
	otherwise := l.leap(api.JumpNot)
	l.node(n.Kids[1])
	over := l.leap(api.Jump)
	otherwise()
	l.node(n.Kids[2])
	over()
}

func (l *layer) loop(n api.Node) {
	again := len(l.ins)
	l.node(n.Kids[0])
	out := l.leap(api.JumpNot)
	l.node(n.Kids[1])
	l.lay(api.Jump, again)
	out()
}
