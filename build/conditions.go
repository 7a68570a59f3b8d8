package build

import (
	"pairlegal/api"
	"pairlegal/types"
)

// truth takes in hand 1 or 0, as an expression holds or does not.
func (f *function) truth(x api.Expr) {
	no, end := f.newLabel(), f.newLabel()
	f.unless(x, no)
	f.set(0, 1)
	f.to(api.OpJmp, end)
	f.label(no)
	f.set(0, 0)
	f.label(end)
}

// unless jumps, if an expression is 0.
func (f *function) unless(x api.Expr, no string) {
	switch x.Kind {
	case api.CLand:
		f.unless(x.Kids[0], no)
		f.unless(x.Kids[1], no)
	case api.CLor:
		f.unlessEither(x.Kids, no)
	case api.CLog:
		f.unlessNot(x.Kids[0], no)
	case api.CLt, api.CLe, api.CGt, api.CGe, api.CEq, api.CNe:
		f.unlessCompared(x, no)
	default:
		f.told(x)
		f.test(f.typeOf(x))
		f.to(api.OpJz, no)
	}
}

func (f *function) unlessEither(kids []api.Expr, no string) {
	second, yes := f.newLabel(), f.newLabel()
	f.unless(kids[0], second)
	f.to(api.OpJmp, yes)
	f.label(second)
	f.unless(kids[1], no)
	f.label(yes)
}

func (f *function) unlessNot(x api.Expr, no string) {
	yes := f.newLabel()
	f.unless(x, yes)
	f.to(api.OpJmp, no)
	f.label(yes)
}

// unlessCompared takes one number away from the other for the flags: of CGt and CLe the first one from the second one, for which they are what CLt and CGe are for the others.
func (f *function) unlessCompared(x api.Expr, no string) {
	t := types.Common(f.typeOf(x.Kids[0]), f.typeOf(x.Kids[1]))
	turned := x.Kind == api.CGt || x.Kind == api.CLe
	f.pair(x.Kids, t, func(k, a, b int) {
		if turned {
			a, b = b, a
		}
		f.both(chained(k, api.OpCmp, api.OpCpc), a, b)
	})
	f.to(jumpUnless(x.Kind, t), no)
}

// jumpUnless answers the jump that is taken where a comparison of numbers of type t does not hold.
func jumpUnless(kind int, t api.Type) int {
	switch kind {
	case api.CEq:
		return api.OpJnz
	case api.CNe:
		return api.OpJz
	case api.CLt, api.CGt:
		return bySign(t, api.OpJge, api.OpJnc)
	}
	return bySign(t, api.OpJlt, api.OpJc)
}
