package build

import (
	"pairlegal/api"
	"pairlegal/check"
	"pairlegal/rt"
	"pairlegal/types"
)

// Labels for all, beside those of functions and of routines.
const (
	startLabel  = "start"
	placeLabel  = "beyond"   // where a run ends that asks for a place that an array has not
	callsLabel  = "too_deep" // where a run ends that has too many calls open
	memoryLabel = "full"     // where a run waits whose stack has no room any more
)

// units answers all units of a program with which nothing is wrong; those that it does not need are left out when they are linked.
func units(p api.Program) []api.Unit {
	n := namesOf(p)
	out := append(ends(), n.startUnit(p.Globals))
	for _, f := range p.Funcs {
		out = append(out, n.functionUnit(f))
	}
	return append(out, rt.Units()...)
}

// ends answers the units at which a run does not go on.
//
// One whose stack has no room any more could not be right, so it takes steps until its fuel ends. That breaks no promise: no tick lays more than five words onto the stack, and no function asks for more room ahead than its nodes could lay there, so that it has taken far more ticks than MaxFuel is enough for.
func ends() []api.Unit {
	return []api.Unit{
		trap(placeLabel, api.TrapPlace),
		trap(callsLabel, api.TrapCalls),
		{Name: memoryLabel, Lines: []api.Line{{Label: memoryLabel}, {Ins: api.Instr{Op: api.OpJmp}, Ref: memoryLabel}}},
	}
}

func trap(label string, n int) api.Unit {
	return api.Unit{Name: label, Lines: []api.Line{{Label: label}, {Ins: api.Instr{Op: api.OpTrap, Imm: n}}}}
}

// startUnit answers the unit that is run first: it gives the variables of all their numbers, and calls main. That all else is 0 at first is promised, the stack and how many calls are open, too.
func (n names) startUnit(globals []api.Global) api.Unit {
	w := &writer{}
	w.label(startLabel)
	w.set(spare, 0)
	for _, g := range globals {
		at := n.globals[g.Name].at
		for _, x := range g.Init {
			w.first(at, x, g.Type)
			at += types.Words(g.Type)
		}
	}
	w.to(api.OpCall, n.functions["main"].label)
	w.do(api.OpHalt, 0, 0, 0)
	return api.Unit{Name: startLabel, Lines: w.lines}
}

// first gives a place in memory the number that it has at first, with 0 in spare.
func (w *writer) first(at int, x api.Expr, t api.Type) {
	number, from, _ := check.Const(x)
	for k, word := range wordsOf(types.Convert(number, from, t), t) {
		if word != 0 {
			w.set(0, word)
			w.store(spare, at+k, 0)
		}
	}
}
