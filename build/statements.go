package build

import "pairlegal/api"

// block writes statements; what they declare is gone behind them.
func (f *function) block(list []api.Stat) {
	defer f.close(f.here())
	for _, x := range list {
		f.statement(x)
	}
}

func (f *function) statement(x api.Stat) {
	switch x.Kind {
	case api.SDecl:
		f.declaration(x)
	case api.SSet:
		f.assignment(x)
	case api.SExpr:
		f.told(x.X)
	case api.SIf:
		f.choice(x)
	case api.SWhile:
		f.rounds(x, true, nil)
	case api.SFor:
		f.block(x.Init)
		f.rounds(x, x.Has, x.Step)
	case api.SReturn:
		f.returned(x)
	case api.SBreak:
		f.leaveBody(f.loop.out)
	case api.SContinue:
		f.leaveBody(f.loop.next)
	case api.SBlock:
		f.block(x.Body)
	}
}

// declaration lays the number onto the stack, where it stays until the block is closed; X does not see the name.
func (f *function) declaration(x api.Stat) {
	if x.Has {
		f.value(x.X, x.Type)
	} else {
		f.number(0, x.Type)
	}
	f.pushNumber(x.Type)
	f.declare(x.Type, x.Name)
}

// assignment asks for an array's place ahead of the number, and lays it aside meanwhile.
func (f *function) assignment(x api.Stat) {
	v := f.variable(x.Name)
	if !x.Has {
		f.value(x.X, v.typ)
		f.storeVariable(v)
		return
	}
	f.place(v, x.I)
	f.push(0)
	f.value(x.X, v.typ)
	f.storePlace(v)
}

func (f *function) choice(x api.Stat) {
	no, end := f.newLabel(), f.newLabel()
	f.unless(x.X, no)
	f.block(x.Body)
	f.to(api.OpJmp, end)
	f.label(no)
	f.block(x.Else)
	f.label(end)
}

// rounds writes a loop, with what is done behind each round.
func (f *function) rounds(x api.Stat, asks bool, behind []api.Stat) {
	again, next, out := f.newLabel(), f.newLabel(), f.newLabel()
	f.label(again)
	if asks {
		f.unless(x.X, out)
	}
	f.body(x.Body, loop{out: out, next: next, depth: f.depth})
	f.label(next)
	f.block(behind)
	f.to(api.OpJmp, again)
	f.label(out)
}

// body is a block that may be left by SBreak and SContinue.
func (f *function) body(list []api.Stat, l loop) {
	defer f.comeBack(f.loop)
	f.loop = l
	f.block(list)
}

func (f *function) comeBack(outer loop) { f.loop = outer }

// leaveBody jumps out of all blocks of the innermost loop's body.
func (f *function) leaveBody(label string) {
	f.free(f.depth - f.loop.depth)
	f.to(api.OpJmp, label)
}

func (f *function) returned(x api.Stat) {
	if x.Has {
		f.value(x.X, f.result)
	}
	f.free(f.depth)
	f.to(api.OpJmp, backLabel)
}
