package compile

import "proteus/api"

// behind lays what comes of a node all of whose Kids come ahead of it; nothing, of an SBlock.
func (l *layer) behind(n api.Node) {
	if n.Kind <= api.EFun {
		l.worked(n)
		return
	}
	l.done(n)
}

// worked lays the end of an expression: its value is on the stack then.
func (l *layer) worked(n api.Node) {
	switch n.Kind {
	case api.ENull:
		l.lay(api.PushNull, 0)
	case api.EThis:
		l.lay(api.PushThis, 0)
	case api.EBool:
		l.lay(api.PushBool, n.N)
	case api.EInt:
		l.lay(api.PushInt, n.N)
	case api.EStr:
		l.lay(api.PushStr, l.strings.number(n.S))
	case api.EFun:
		l.lay(api.PushFun, n.N)
	case api.ELocal:
		l.lay(api.GetLocal, n.N)
	case api.EGlobal:
		l.lay(api.GetGlobal, n.N)
	case api.EUn:
		l.lay(api.Un, n.Op)
	case api.EBin:
		l.lay(api.Bin, n.Op)
	case api.EBuilt:
		l.lay(api.Built, n.Op)
	case api.EGet:
		l.laySite(api.Get, n.S)
	case api.EIndex:
		l.lay(api.GetIx, 0)
	case api.ECall:
		l.lay(api.Call, len(n.Kids)-1)
	}
}

// done lays the end of a statement: the stack is as it was ahead of it then.
func (l *layer) done(n api.Node) {
	switch n.Kind {
	case api.SLocal:
		l.lay(api.SetLocal, n.N)
	case api.SGlobal:
		l.lay(api.SetGlobal, n.N)
	case api.SSet:
		l.laySite(api.Set, n.S)
	case api.SSetIx:
		l.lay(api.SetIx, 0)
	case api.SDel:
		l.lay(api.Del, l.strings.number(n.S))
	case api.SDelIx:
		l.lay(api.DelIx, 0)
	case api.SPrint:
		l.lay(api.Print, 0)
	case api.SExpr:
		l.lay(api.Pop, 0)
	case api.SReturn:
		l.lay(api.Ret, 0)
	}
}
