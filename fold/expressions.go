package fold

import (
	"pairlegal/api"
	"pairlegal/check"
	"pairlegal/types"
)

// expression works out an expression with which nothing is wrong, its kids first.
func expression(x api.Expr) api.Expr {
	x.Kids = each(x.Kids, expression)
	if !ready(x) {
		return x
	}
	n, t, err := check.Const(x)
	if err != api.OK {
		return x
	}
	return written(n, t)
}

// ready tells whether an expression is made of known ones alone; what stands in an array, or a call tells, is not. (Const refuses those that are not, too, but it would go through all of their kids again, level by level.)
func ready(x api.Expr) bool {
	if len(x.Kids) == 0 || x.Kind == api.CAt || x.Kind == api.CCall {
		return false
	}
	for _, kid := range x.Kids {
		if !known(kid) {
			return false
		}
	}
	return true
}

// known tells whether an expression is a number, or one that is cast.
func known(x api.Expr) bool {
	return x.Kind == api.CNum || x.Kind == api.CCast && x.Kids[0].Kind == api.CNum
}

// written answers the expression that a number of a type is written as. A literal's type is the narrowest that has it, so most numbers below nought, and all of 8 bits, need a cast.
func written(n uint64, t api.Type) api.Expr {
	if is, err := types.Literal(n, !t.Signed); err == api.OK && is == t {
		return api.Expr{Kind: api.CNum, N: n, Type: t}
	}
	// Each number is a literal without a sign.
	is, _ := types.Literal(n, true)
	return api.Expr{Kind: api.CCast, Type: t, Kids: []api.Expr{{Kind: api.CNum, N: n, Type: is}}}
}
