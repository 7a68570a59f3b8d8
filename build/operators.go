package build

import (
	"strconv"

	"pairlegal/api"
	"pairlegal/types"
)

// pair works out two expressions as numbers of type t, and then does something with them word by word, the lowest one first: with the registers that have word k of the first one, and of the second one. The one of these that is not k is spare, and no flag changes from one word to the next.
func (f *function) pair(kids []api.Expr, t api.Type, do func(k, a, b int)) {
	f.value(kids[0], t)
	if f.isAtHand(kids[1], t) {
		for k := range types.Words(t) {
			f.fetch(kids[1], t, k)
			do(k, k, spare)
		}
		return
	}
	f.pushNumber(t)
	f.value(kids[1], t)
	for k := range types.Words(t) {
		f.pop(spare)
		do(k, spare, k)
	}
}

// isAtHand tells whether an expression's words as a number of type t can be had one by one.
func (f *function) isAtHand(x api.Expr, t api.Type) bool {
	return x.Kind == api.CNum || x.Kind == api.CVar && types.Words(f.typeOf(x)) == types.Words(t)
}

// fetch makes spare word k of such an expression.
func (f *function) fetch(x api.Expr, t api.Type, k int) {
	if x.Kind == api.CNum {
		f.set(spare, wordsOf(types.Convert(x.N, x.Type, t), t)[k])
		return
	}
	base, behind := f.reach(f.variable(x.Name))
	f.load(spare, base, behind+k)
}

// wordByWord is for operators that the machine has.
func (f *function) wordByWord(x api.Expr) {
	first, rest := operations(x.Kind)
	f.pair(x.Kids, f.typeOf(x), func(k, a, b int) {
		f.both(chained(k, first, rest), a, b)
		if a != k {
			f.both(api.OpMov, k, a)
		}
	})
}

// operations answers which instruction works on the lowest word, and which on those above it.
func operations(kind int) (first, rest int) {
	switch kind {
	case api.CAdd:
		return api.OpAdd, api.OpAdc
	case api.CSub:
		return api.OpSub, api.OpSbc
	case api.CAnd:
		return api.OpAnd, api.OpAnd
	case api.CXor:
		return api.OpXor, api.OpXor
	}
	return api.OpOr, api.OpOr
}

// routine is for operators that the machine has not: both numbers lie on the stack when the routine is called, and below them how many calls are open, since a routine may use all registers.
func (f *function) routine(x api.Expr) {
	t := f.typeOf(x)
	second := t
	if x.Kind == api.CShl || x.Kind == api.CShr {
		second = u16()
	}
	f.value(x.Kids[0], t)
	f.pushNumber(t)
	f.value(x.Kids[1], second)
	f.pushNumber(second)
	f.push(calls)
	f.stackPlace(0, 1+types.Words(second))
	f.stackPlace(1, 1)
	f.to(api.OpCall, routineName(x.Kind, t))
	f.pop(calls)
	f.drop(types.Words(second))
	f.popNumber(t)
}

// stackPlace makes a register the place that lies some words behind the stack's end.
func (f *function) stackPlace(d, behind int) {
	f.both(api.OpMov, d, stack)
	f.set(spare, behind)
	f.both(api.OpAdd, d, spare)
}

// routineName answers which routine (chapter 6) an operator calls whose numbers are of type t.
func routineName(kind int, t api.Type) string {
	name := ""
	switch kind {
	case api.CMul:
		name = "mul"
	case api.CDiv:
		name = bySign(t, "sdiv", "udiv")
	case api.CRem:
		name = bySign(t, "srem", "urem")
	case api.CShl:
		name = "shl"
	case api.CShr:
		name = bySign(t, "sar", "shr")
	}
	return name + strconv.Itoa(types.Words(t))
}

func bySign[V any](t api.Type, with, without V) V {
	if t.Signed {
		return with
	}
	return without
}
