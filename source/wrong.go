package source

import (
	"pairlegal/api"
	"pairlegal/types"
)

// Wrong answers what is wrong with a program.
func Wrong(p api.Program) api.Errno {
	var l looker
	return l.program(p)
}

// WrongExpr answers what is wrong with an expression that stands in no program, at depth 1.
func WrongExpr(x api.Expr) api.Errno {
	var l looker
	return l.expression(x, 1)
}

// Nodes answers how many nodes a program has; if something is wrong, how many were come to until then, for such a one may have no end.
func Nodes(p api.Program) int {
	var l looker
	l.program(p)
	return l.nodes
}

// looker goes through a program up to the first thing that is wrong, and counts nodes.
type looker struct{ nodes int }

func (l *looker) program(p api.Program) api.Errno {
	if len(p.Funcs) > api.MaxFuncs {
		return api.ErrMany
	}
	for _, g := range p.Globals {
		if err := l.global(g); err != api.OK {
			return err
		}
	}
	for _, f := range p.Funcs {
		if err := l.function(f); err != api.OK {
			return err
		}
	}
	return api.OK
}

func (l *looker) global(g api.Global) api.Errno {
	if err := wrongNamed(g.Type, g.Name); err != api.OK {
		return err
	}
	if g.Size < 0 || g.Size > api.MaxGlobals {
		return api.ErrRange
	}
	if len(g.Init) > max(1, g.Size) {
		return api.ErrMany
	}
	if err := l.node(1); err != api.OK {
		return err
	}
	return l.expressions(g.Init, 2)
}

func (l *looker) function(f api.Func) api.Errno {
	switch {
	case !Named(f.Name):
		return api.ErrName
	case !types.Valid(f.Result) && f.Result != api.Type{}:
		return api.ErrType
	case len(f.Params) > api.MaxParams:
		return api.ErrMany
	}
	for _, p := range f.Params {
		if err := wrongNamed(p.Type, p.Name); err != api.OK {
			return err
		}
	}
	if err := l.node(1); err != api.OK {
		return err
	}
	return l.statements(f.Body, 2)
}

func wrongNamed(t api.Type, name string) api.Errno {
	if !types.Valid(t) {
		return api.ErrType
	}
	return wrongName(name)
}

func wrongName(name string) api.Errno {
	if !Named(name) {
		return api.ErrName
	}
	return api.OK
}

// node counts one more node, at that depth.
func (l *looker) node(depth int) api.Errno {
	l.nodes++
	if l.nodes > api.MaxNodes || depth > api.MaxShape {
		return api.ErrMuch
	}
	return api.OK
}

func (l *looker) statements(list []api.Stat, depth int) api.Errno {
	for _, s := range list {
		if err := l.statement(s, depth); err != api.OK {
			return err
		}
	}
	return api.OK
}

func (l *looker) statement(s api.Stat, depth int) api.Errno {
	if err := l.node(depth); err != api.OK {
		return err
	}
	if s.Kind < api.SNone || s.Kind > api.SBlock {
		return api.ErrKind
	}
	if err := wrongStatement(s); err != api.OK {
		return err
	}
	return l.inStatement(s, depth+1)
}

// wrongStatement answers what is wrong with the fields of a statement that has a kind.
func wrongStatement(s api.Stat) api.Errno {
	switch s.Kind {
	case api.SDecl:
		return wrongNamed(s.Type, s.Name)
	case api.SSet:
		return wrongName(s.Name)
	}
	return api.OK
}

// inStatement looks at what is in a statement, at that depth. A kind has only some of these parts, but those it has stand in this order.
func (l *looker) inStatement(s api.Stat, depth int) api.Errno {
	if s.Kind == api.SFor {
		if err := l.doneAhead(s.Init, depth); err != api.OK {
			return err
		}
	}
	if s.Kind == api.SSet && s.Has {
		if err := l.expression(s.I, depth); err != api.OK {
			return err
		}
	}
	if hasX(s) {
		if err := l.expression(s.X, depth); err != api.OK {
			return err
		}
	}
	if s.Kind == api.SFor {
		if err := l.doneAhead(s.Step, depth); err != api.OK {
			return err
		}
	}
	switch s.Kind {
	case api.SIf:
		if err := l.statements(s.Body, depth); err != api.OK {
			return err
		}
		return l.statements(s.Else, depth)
	case api.SWhile, api.SFor, api.SBlock:
		return l.statements(s.Body, depth)
	}
	return api.OK
}

// hasX tells whether there is an X in a statement: Has says so of some kinds, and of others something else or nothing.
func hasX(s api.Stat) bool {
	switch s.Kind {
	case api.SSet, api.SExpr, api.SIf, api.SWhile:
		return true
	case api.SDecl, api.SReturn, api.SFor:
		return s.Has
	}
	return false
}

// doneAhead looks at what an SFor does by the way.
func (l *looker) doneAhead(list []api.Stat, depth int) api.Errno {
	if len(list) > 1 {
		return api.ErrMany
	}
	for _, s := range list {
		if s.Kind != api.SSet && s.Kind != api.SExpr {
			return api.ErrFit
		}
	}
	return l.statements(list, depth)
}

func (l *looker) expressions(list []api.Expr, depth int) api.Errno {
	for _, x := range list {
		if err := l.expression(x, depth); err != api.OK {
			return err
		}
	}
	return api.OK
}

func (l *looker) expression(x api.Expr, depth int) api.Errno {
	if err := l.node(depth); err != api.OK {
		return err
	}
	if x.Kind < api.CNum || x.Kind > api.CLor {
		return api.ErrKind
	}
	if err := wrongExpression(x); err != api.OK {
		return err
	}
	least, most := kidsOf(x.Kind)
	if len(x.Kids) < least || len(x.Kids) > most {
		return api.ErrMany
	}
	return l.expressions(x.Kids, depth+1)
}

// wrongExpression answers what is wrong with the fields of an expression that has a kind.
func wrongExpression(x api.Expr) api.Errno {
	switch x.Kind {
	case api.CNum:
		if t, err := types.Literal(x.N, !x.Type.Signed); err != api.OK || t != x.Type {
			return api.ErrType
		}
	case api.CVar, api.CAt, api.CCall:
		return wrongName(x.Name)
	case api.CCast:
		if !types.Valid(x.Type) {
			return api.ErrType
		}
	}
	return api.OK
}

// kidsOf answers how many kids an expression of a kind has.
func kidsOf(kind int) (least, most int) {
	switch kind {
	case api.CNum, api.CVar:
		return 0, 0
	case api.CCall:
		return 0, api.MaxParams
	case api.CAt, api.CCast, api.CNeg, api.CNot, api.CLog:
		return 1, 1
	}
	return 2, 2
}
