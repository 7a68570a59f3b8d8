package eval

import (
	"pairlegal/api"
	"pairlegal/types"
)

// value is what an expression is turned into: it answers what that tells in a run; 0 and false, if the run ends there.
type value func(m *machine) (uint64, bool)

// expression is a value, and its type.
type expression struct {
	typ  api.Type
	tell value
}

// constant tells a number without a tick.
func constant(n uint64) value {
	return func(*machine) (uint64, bool) { return n, true }
}

// as converts what an expression tells.
func (e expression) as(t api.Type) value {
	return func(m *machine) (uint64, bool) {
		n, ok := e.tell(m)
		return types.Convert(n, e.typ, t), ok
	}
}

// expression turns an expression, with the tick that each one takes when it is come to.
func (s *scope) expression(x api.Expr) expression {
	out := s.untimed(x)
	return expression{out.typ, func(m *machine) (uint64, bool) {
		if !m.tick() {
			return 0, false
		}
		return out.tell(m)
	}}
}

// untimed turns an expression without its own tick.
func (s *scope) untimed(x api.Expr) expression {
	switch x.Kind {
	case api.CNum:
		return expression{x.Type, constant(x.N)}
	case api.CVar:
		return s.variable(x.Name).at(constant(0))
	case api.CCall:
		return s.call(x)
	}
	a := s.expression(x.Kids[0])
	switch x.Kind {
	case api.CAt:
		v := s.variable(x.Name)
		return v.at(v.place(a))
	case api.CCast:
		return expression{x.Type, a.as(x.Type)}
	case api.CNeg, api.CNot, api.CLog:
		return unary(x.Kind, a)
	}
	b := s.expression(x.Kids[1])
	if x.Kind == api.CLand || x.Kind == api.CLor {
		return logical(x.Kind, a, b)
	}
	return binary(x.Kind, a, b)
}

// place tells which of a variable's numbers an expression asks for; the run ends, if there is none.
func (v variable) place(e expression) value {
	at := e.as(u16())
	return func(m *machine) (uint64, bool) {
		n, ok := at(m)
		if ok && n >= uint64(len(v.numbers(m))) {
			return m.trap(api.TrapPlace)
		}
		return n, ok
	}
}

// at tells the number that a variable has at a place.
func (v variable) at(place value) expression {
	return expression{v.typ, func(m *machine) (uint64, bool) {
		n, ok := place(m)
		if !ok {
			return 0, false
		}
		return v.numbers(m)[n], true
	}}
}

func unary(kind int, a expression) expression {
	// Of which type it is does not hang on the number.
	_, typ, _ := types.Unary(kind, 0, a.typ)
	return expression{typ, func(m *machine) (uint64, bool) {
		n, ok := a.tell(m)
		if !ok {
			return 0, false
		}
		n, _, _ = types.Unary(kind, n, a.typ)
		return n, true
	}}
}

func binary(kind int, a, b expression) expression {
	return expression{types.Result(kind, a.typ, b.typ), func(m *machine) (uint64, bool) {
		x, ok := a.tell(m)
		if !ok {
			return 0, false
		}
		y, ok := b.tell(m)
		if !ok {
			return 0, false
		}
		n, err := types.Binary(kind, x, y, a.typ, b.typ)
		if err != api.OK {
			return m.trap(api.TrapZero)
		}
		return n, true
	}}
}

// logical comes to its second kid only where the first one has not settled it.
func logical(kind int, a, b expression) expression {
	settles := kind == api.CLor
	return expression{i16(), func(m *machine) (uint64, bool) {
		n, ok := a.tell(m)
		if ok && (n != 0) != settles {
			n, ok = b.tell(m)
		}
		return oneIf(n != 0), ok
	}}
}

func oneIf(holds bool) uint64 {
	if holds {
		return 1
	}
	return 0
}

// call turns a call; what the function does is asked for when it is called, for it may not be turned yet.
func (s *scope) call(x api.Expr) expression {
	f := s.functions[x.Name]
	var given []value
	for i, kid := range x.Kids {
		given = append(given, s.expression(kid).as(f.params[i].Type))
	}
	return expression{f.result, func(m *machine) (uint64, bool) {
		numbers, ok := all(m, given)
		if !ok {
			return 0, false
		}
		return f.do(m, numbers)
	}}
}

// all answers what values tell, one by one; false, if the run ends at one of them.
func all(m *machine, list []value) ([]uint64, bool) {
	out := make([]uint64, len(list))
	for i, tell := range list {
		n, ok := tell(m)
		if !ok {
			return nil, false
		}
		out[i] = n
	}
	return out, true
}
