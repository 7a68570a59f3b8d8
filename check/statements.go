package check

import "pairlegal/api"

// block looks at statements in order; what they declare is not seen behind them.
func (s *scope) block(list []api.Stat) api.Errno {
	defer s.hide(len(s.open))
	for _, x := range list {
		if err := s.statement(x); err != api.OK {
			return err
		}
	}
	return api.OK
}

// loop is a block that may be left by SBreak and SContinue.
func (s *scope) loop(list []api.Stat) api.Errno {
	s.loops++
	defer s.leave()
	return s.block(list)
}

func (s *scope) leave() { s.loops-- }

func (s *scope) statement(x api.Stat) api.Errno {
	switch x.Kind {
	case api.SDecl:
		return s.declaration(x)
	case api.SSet:
		return s.set(x)
	case api.SExpr:
		_, err := s.typeOf(x.X)
		return err
	case api.SReturn:
		return s.returns(x)
	case api.SBreak, api.SContinue:
		if s.loops == 0 {
			return api.ErrFit
		}
	case api.SIf:
		return s.choice(x)
	case api.SWhile:
		if err := s.tells(x.X); err != api.OK {
			return err
		}
		return s.loop(x.Body)
	case api.SFor:
		return s.forLoop(x)
	case api.SBlock:
		return s.block(x.Body)
	}
	return api.OK
}

// declaration looks at X ahead of the name, which X does not see.
func (s *scope) declaration(x api.Stat) api.Errno {
	if err := s.perhaps(x); err != api.OK {
		return err
	}
	return s.declare(x.Type, x.Name)
}

func (s *scope) set(x api.Stat) api.Errno {
	if x.Has {
		if err := s.tells(x.I); err != api.OK {
			return err
		}
	}
	if _, err := s.asked(x.Name, x.Has); err != api.OK {
		return err
	}
	return s.tells(x.X)
}

func (s *scope) returns(x api.Stat) api.Errno {
	if x.Has != (s.result != api.Type{}) {
		return api.ErrType
	}
	return s.perhaps(x)
}

func (s *scope) choice(x api.Stat) api.Errno {
	if err := s.tells(x.X); err != api.OK {
		return err
	}
	if err := s.block(x.Body); err != api.OK {
		return err
	}
	return s.block(x.Else)
}

func (s *scope) forLoop(x api.Stat) api.Errno {
	if err := s.block(x.Init); err != api.OK {
		return err
	}
	if err := s.perhaps(x); err != api.OK {
		return err
	}
	if err := s.block(x.Step); err != api.OK {
		return err
	}
	return s.loop(x.Body)
}

// perhaps looks at X, if Has.
func (s *scope) perhaps(x api.Stat) api.Errno {
	if !x.Has {
		return api.OK
	}
	return s.tells(x.X)
}
