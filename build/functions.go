package build

import (
	"pairlegal/api"
	"pairlegal/types"
)

const (
	backLabel   = ".back"
	wayBack     = 1  // word that a call lays onto the stack
	routineRoom = 64 // words of the stack that a routine may use (chapter 6)
)

// functionUnit writes a function. Whoever calls it has laid its parameters onto the stack, and finds what it tells in hand.
func (n names) functionUnit(fn api.Func) api.Unit {
	f := &function{names: n, result: fn.Result}
	f.takeParams(fn.Params)
	f.block(fn.Body)
	f.number(0, fn.Result)
	f.label(backLabel)
	f.set(spare, 1)
	f.both(api.OpSub, calls, spare)
	f.do(api.OpRet, 0, 0, 0)
	label := n.functions[fn.Name].label
	// How much room it needs is not known until all of it is written.
	head := entry(label, n.memory+f.deepest+routineRoom)
	return api.Unit{Name: label, Lines: append(head.lines, f.lines...)}
}

// takeParams declares parameters as if they had been pushed here, with the way back on top of them.
func (f *function) takeParams(params []api.Param) {
	f.depth = -wayBack
	for _, p := range params {
		f.depth -= types.Words(p.Type)
	}
	for _, p := range params {
		f.depth += types.Words(p.Type)
		f.declare(p.Type, p.Name)
	}
	f.depth += wayBack
}

// entry writes what each function begins with: one more call is open, if that may be; the stack's end may not lie ahead of least.
func entry(label string, least int) *writer {
	w := &writer{}
	w.label(label)
	w.set(spare, api.MaxCalls)
	w.both(api.OpCmp, calls, spare)
	w.to(api.OpJz, callsLabel)
	w.set(spare, least)
	w.both(api.OpCmp, stack, spare)
	w.to(api.OpJc, memoryLabel)
	w.set(spare, 1)
	w.both(api.OpAdd, calls, spare)
	return w
}
