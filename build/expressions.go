package build

import (
	"pairlegal/api"
	"pairlegal/types"
)

// typeOf answers the type of an expression here; of a call that tells nothing it is api.Type{}.
func (f *function) typeOf(x api.Expr) api.Type {
	switch x.Kind {
	case api.CNum, api.CCast:
		return x.Type
	case api.CVar, api.CAt:
		return f.variable(x.Name).typ
	case api.CCall:
		return f.functions[x.Name].result
	case api.CNeg, api.CNot:
		return types.Promote(f.typeOf(x.Kids[0]))
	case api.CLog, api.CLand, api.CLor:
		return i16()
	}
	return types.Result(x.Kind, f.typeOf(x.Kids[0]), f.typeOf(x.Kids[1]))
}

// value takes in hand what an expression tells, as a number of type t.
func (f *function) value(x api.Expr, t api.Type) {
	f.told(x)
	f.convert(f.typeOf(x), t)
}

// told takes in hand what an expression tells, if it tells something.
func (f *function) told(x api.Expr) {
	switch x.Kind {
	case api.CNum:
		f.number(x.N, x.Type)
	case api.CVar:
		f.loadVariable(f.variable(x.Name))
	case api.CAt:
		v := f.variable(x.Name)
		f.place(v, x.Kids[0])
		f.loadPlace(v)
	case api.CCall:
		f.call(x)
	case api.CCast:
		f.value(x.Kids[0], x.Type)
	case api.CNeg, api.CNot:
		f.unary(x)
	case api.CMul, api.CDiv, api.CRem, api.CShl, api.CShr:
		f.routine(x)
	case api.CAdd, api.CSub, api.CAnd, api.CXor, api.COr:
		f.wordByWord(x)
	default:
		f.truth(x)
	}
}

// reach answers a register, and how many words behind where it says a variable lies; it needs spare for one of all.
func (f *function) reach(v variable) (base, behind int) {
	if v.local {
		return stack, f.depth - v.at
	}
	f.set(spare, v.at)
	return spare, 0
}

func (f *function) loadVariable(v variable) {
	base, behind := f.reach(v)
	for k := range types.Words(v.typ) {
		f.load(k, base, behind+k)
	}
}

func (f *function) storeVariable(v variable) {
	base, behind := f.reach(v)
	for k := range types.Words(v.typ) {
		f.store(base, behind+k, k)
	}
}

// place takes in hand how many words of an array lie ahead of the number for which an expression asks; the run ends, if there is none.
func (f *function) place(v variable, x api.Expr) {
	f.value(x, u16())
	f.set(spare, v.size)
	f.both(api.OpCmp, 0, spare)
	f.to(api.OpJnc, placeLabel)
	for n := types.Words(v.typ); n > 1; n /= 2 {
		f.do(api.OpShl, 0, 0, 0)
	}
}

// loadPlace loads the lowest word last, since the place is where it comes to lie.
func (f *function) loadPlace(v variable) {
	for k := types.Words(v.typ) - 1; k >= 0; k-- {
		f.load(k, 0, v.at+k)
	}
}

// storePlace stores at a place that lies on the stack.
func (f *function) storePlace(v variable) {
	f.pop(spare)
	for k := range types.Words(v.typ) {
		f.store(spare, v.at+k, k)
	}
}

// unary is for CNeg and CNot.
func (f *function) unary(x api.Expr) {
	t := f.typeOf(x)
	f.value(x.Kids[0], t)
	if x.Kind == api.CNeg {
		f.negate(t)
	} else {
		f.invert(t)
	}
}

func (f *function) call(x api.Expr) {
	switch x.Name {
	case "put":
		f.value(x.Kids[0], i16())
		f.do(api.OpOut, 0, 0, 0)
	case "get":
		f.get()
	default:
		f.callFunction(x)
	}
}

// get takes a byte in; -1, if there is none left.
func (f *function) get() {
	got := f.newLabel()
	f.do(api.OpIn, 0, 0, 0)
	f.to(api.OpJnc, got)
	f.set(0, allOnes)
	f.label(got)
}

// callFunction lays what the function is given onto the stack, and takes it off again behind the call.
func (f *function) callFunction(x api.Expr) {
	ahead := f.depth
	g := f.functions[x.Name]
	for i, kid := range x.Kids {
		f.value(kid, g.params[i].Type)
		f.pushNumber(g.params[i].Type)
	}
	f.to(api.OpCall, g.label)
	f.drop(f.depth - ahead)
}
