package check

import (
	"pairlegal/api"
	"pairlegal/source"
	"pairlegal/types"
)

// Const answers the number that an expression is, whatever a program does, and its type; of one with which something is wrong by itself, what that is.
func Const(x api.Expr) (uint64, api.Type, api.Errno) {
	// One that was made by hand may be without an end, or lack a kid.
	if err := source.WrongExpr(x); err != api.OK {
		return 0, api.Type{}, err
	}
	out, err := worked(x)
	return out.n, out.typ, err
}

// number is a number of a type.
type number struct {
	n   uint64
	typ api.Type
}

// worked works out an expression with which nothing is wrong by itself.
func worked(x api.Expr) (number, api.Errno) {
	switch x.Kind {
	case api.CNum:
		return number{x.N, x.Type}, api.OK
	case api.CVar, api.CAt, api.CCall:
		return number{}, api.ErrFit
	}
	a, err := worked(x.Kids[0])
	if err != api.OK {
		return number{}, err
	}
	if len(x.Kids) == 1 {
		return workedOne(x, a)
	}
	b, err := worked(x.Kids[1])
	if err != api.OK {
		return number{}, err
	}
	return workedTwo(x.Kind, a, b)
}

// workedOne works out an expression of one kid, which is a.
func workedOne(x api.Expr, a number) (number, api.Errno) {
	if x.Kind == api.CCast {
		return number{types.Convert(a.n, a.typ, x.Type), x.Type}, api.OK
	}
	n, t, err := types.Unary(x.Kind, a.n, a.typ)
	return number{n, t}, err
}

// workedTwo works out an expression of two kids; both are worked out ahead, whatever the first one is, so that of CLand and CLor the second one's error is told, too.
func workedTwo(kind int, a, b number) (number, api.Errno) {
	switch kind {
	case api.CLand:
		return truth(a.n != 0 && b.n != 0), api.OK
	case api.CLor:
		return truth(a.n != 0 || b.n != 0), api.OK
	}
	n, err := types.Binary(kind, a.n, b.n, a.typ, b.typ)
	if err != api.OK {
		return number{}, err
	}
	return number{n, types.Result(kind, a.typ, b.typ)}, api.OK
}

func truth(holds bool) number {
	if holds {
		return number{1, i16()}
	}
	return number{0, i16()}
}
