package source

import "pairlegal/api"

// statements reads what stands in a block, and the sign that closes it. At the text's end it is that sign which is missing: no statement is opened there.
func (r *reader) statements() []api.Stat {
	var out []api.Stat
	for !r.takes("}") {
		if r.ended() {
			r.refuse()
		}
		out = append(out, r.statement())
	}
	return out
}

func (r *reader) statement() api.Stat {
	r.enter()
	defer r.leave()
	switch {
	case r.takes(";"):
		return api.Stat{Kind: api.SNone}
	case r.takes("{"):
		return api.Stat{Kind: api.SBlock, Body: r.statements()}
	case r.takes("if"):
		return r.ifBehind()
	case r.takes("while"):
		return api.Stat{Kind: api.SWhile, X: r.asked(), Body: r.body()}
	case r.takes("for"):
		return r.forBehind()
	}
	s := r.closed()
	r.wants(";")
	return s
}

// closed reads a statement that has a `;` behind it.
func (r *reader) closed() api.Stat {
	switch {
	case r.takes("return"):
		s := api.Stat{Kind: api.SReturn}
		if !r.is(";") {
			s.Has, s.X = true, r.expression()
		}
		return s
	case r.takes("break"):
		return api.Stat{Kind: api.SBreak}
	case r.takes("continue"):
		return api.Stat{Kind: api.SContinue}
	case r.isType():
		return r.declared()
	}
	return r.done()
}

// asked reads the expression in brackets on which it hangs what is done.
func (r *reader) asked() api.Expr {
	r.wants("(")
	x := r.expression()
	r.wants(")")
	return x
}

// body reads a statement that is a part of another one: a block there is only how several of them are written.
func (r *reader) body() []api.Stat {
	s := r.statement()
	if s.Kind == api.SBlock {
		return s.Body
	}
	return []api.Stat{s}
}

func (r *reader) ifBehind() api.Stat {
	s := api.Stat{Kind: api.SIf, X: r.asked(), Body: r.body()}
	if r.takes("else") {
		s.Else = r.body()
	}
	return s
}

func (r *reader) forBehind() api.Stat {
	s := api.Stat{Kind: api.SFor}
	r.wants("(")
	s.Init = r.doneAhead(";")
	if !r.is(";") {
		s.Has, s.X = true, r.expression()
	}
	r.wants(";")
	s.Step = r.doneAhead(")")
	s.Body = r.body()
	return s
}

// doneAhead reads what is done, or nothing, and the sign that closes it.
func (r *reader) doneAhead(closing string) []api.Stat {
	if r.takes(closing) {
		return nil
	}
	s := r.done()
	r.wants(closing)
	return []api.Stat{s}
}

func (r *reader) declared() api.Stat {
	t := r.typed()
	s := api.Stat{Kind: api.SDecl, Type: t, Name: r.name()}
	if r.takes("=") {
		s.Has, s.X = true, r.expression()
	}
	return s
}

// done reads a set or an expression: which one it is only the sign behind the first expression tells.
func (r *reader) done() api.Stat {
	first := r.here()
	x := r.expression()
	if !r.is("=") {
		return api.Stat{Kind: api.SExpr, X: x}
	}
	s := api.Stat{Kind: api.SSet, Name: x.Name}
	switch x.Kind {
	case api.CVar:
	case api.CAt:
		s.Has, s.I = true, x.Kids[0]
	default:
		throw(api.ErrFit, first.At)
	}
	r.wants("=")
	s.X = r.expression()
	return s
}
