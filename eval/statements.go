package eval

import "pairlegal/api"

// flow is how a run goes on behind a statement.
type flow int

const (
	goesOn    flow = iota // with what stands behind it
	breaks                // behind the innermost loop
	continues             // behind the innermost loop's body
	returns               // behind the call
	ended                 // not at all
)

// step is what statements are turned into.
type step func(m *machine) flow

// block turns statements; what they declare is not seen behind them.
func (s *scope) block(list []api.Stat) step {
	defer s.hide(len(s.open))
	var steps []step
	for _, x := range list {
		steps = append(steps, s.statement(x))
	}
	return func(m *machine) flow {
		for _, do := range steps {
			if how := do(m); how != goesOn {
				return how
			}
		}
		return goesOn
	}
}

// statement turns a statement, with the tick that each one takes when it is come to.
func (s *scope) statement(x api.Stat) step {
	do := s.untimedStatement(x)
	return func(m *machine) flow {
		if !m.tick() {
			return ended
		}
		return do(m)
	}
}

// untimedStatement turns a statement without its own tick.
func (s *scope) untimedStatement(x api.Stat) step {
	switch x.Kind {
	case api.SDecl:
		return s.declaration(x)
	case api.SSet:
		return s.set(x)
	case api.SExpr:
		return worked(s.expression(x.X))
	case api.SIf:
		return choice(s.expression(x.X).tell, s.block(x.Body), s.block(x.Else))
	case api.SWhile:
		return loop(s.expression(x.X).tell, s.block(x.Body), s.block(nil))
	case api.SFor:
		return s.forLoop(x)
	case api.SReturn:
		return s.returned(x)
	case api.SBreak:
		return always(breaks)
	case api.SContinue:
		return always(continues)
	case api.SBlock:
		return s.block(x.Body)
	}
	return always(goesOn)
}

func always(how flow) step {
	return func(*machine) flow { return how }
}

// declaration turns X ahead of the name, which X does not see.
func (s *scope) declaration(x api.Stat) step {
	first := constant(0)
	if x.Has {
		first = s.expression(x.X).as(x.Type)
	}
	return s.declare(x.Type, x.Name).become(constant(0), first)
}

func (s *scope) set(x api.Stat) step {
	v := s.variable(x.Name)
	place := constant(0)
	if x.Has {
		place = v.place(s.expression(x.I))
	}
	return v.become(place, s.expression(x.X).as(v.typ))
}

// become gives a variable a number at a place, which is asked for ahead of the number.
func (v variable) become(place, number value) step {
	return func(m *machine) flow {
		at, ok := place(m)
		if !ok {
			return ended
		}
		n, ok := number(m)
		if !ok {
			return ended
		}
		v.numbers(m)[at] = n
		return goesOn
	}
}

// worked works out an expression for what it does by the way.
func worked(e expression) step {
	return func(m *machine) flow {
		if _, ok := e.tell(m); !ok {
			return ended
		}
		return goesOn
	}
}

func (s *scope) returned(x api.Stat) step {
	answer := constant(0)
	if x.Has {
		answer = s.expression(x.X).as(s.result)
	}
	return func(m *machine) flow {
		n, ok := answer(m)
		if !ok {
			return ended
		}
		m.answer = n
		return returns
	}
}

func choice(ask value, body, other step) step {
	return func(m *machine) flow {
		n, ok := ask(m)
		switch {
		case !ok:
			return ended
		case n != 0:
			return body(m)
		}
		return other(m)
	}
}

func (s *scope) forLoop(x api.Stat) step {
	ahead := s.block(x.Init)
	ask := constant(1)
	if x.Has {
		ask = s.expression(x.X).tell
	}
	rounds := loop(ask, s.block(x.Body), s.block(x.Step))
	return func(m *machine) flow {
		if ahead(m) == ended {
			return ended
		}
		return rounds(m)
	}
}

// loop asks with a tick of its own, without which a loop that has neither X nor Body would have no end.
func loop(ask value, body, behind step) step {
	return func(m *machine) flow {
		for m.tick() {
			n, ok := ask(m)
			if !ok {
				return ended
			}
			if n == 0 {
				return goesOn
			}
			switch how := body(m); how {
			case breaks:
				return goesOn
			case returns, ended:
				return how
			}
			if behind(m) == ended {
				return ended
			}
		}
		return ended
	}
}
