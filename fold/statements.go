package fold

import (
	"pairlegal/api"
	"pairlegal/check"
)

// statement works out what is in a statement, and then the statement itself.
func statement(s api.Stat) api.Stat {
	switch s.Kind {
	case api.SDecl, api.SReturn:
		return perhaps(s)
	case api.SSet:
		if s.Has {
			s.I = expression(s.I)
		}
		s.X = expression(s.X)
	case api.SExpr:
		s.X = expression(s.X)
	case api.SIf:
		return choice(s)
	case api.SWhile:
		return loop(s)
	case api.SFor:
		s = perhaps(s)
		s.Init, s.Step, s.Body = each(s.Init, statement), each(s.Step, statement), each(s.Body, statement)
	case api.SBlock:
		s.Body = each(s.Body, statement)
	}
	return s
}

// perhaps works out X, if Has.
func perhaps(s api.Stat) api.Stat {
	if s.Has {
		s.X = expression(s.X)
	}
	return s
}

// choice keeps a block around what is always done, for names that are declared there must not be seen behind it.
func choice(s api.Stat) api.Stat {
	s.X, s.Body, s.Else = expression(s.X), each(s.Body, statement), each(s.Else, statement)
	if !known(s.X) {
		return s
	}
	if nought(s.X) {
		return api.Stat{Kind: api.SBlock, Body: s.Else}
	}
	return api.Stat{Kind: api.SBlock, Body: s.Body}
}

func loop(s api.Stat) api.Stat {
	s.X, s.Body = expression(s.X), each(s.Body, statement)
	if known(s.X) && nought(s.X) {
		return api.Stat{Kind: api.SNone}
	}
	return s
}

// nought tells whether a known expression is 0.
func nought(x api.Expr) bool {
	n, _, _ := check.Const(x)
	return n == 0
}
