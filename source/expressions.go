package source

import (
	"pairlegal/api"
	"pairlegal/types"
)

func (r *reader) expression() api.Expr {
	r.enter()
	defer r.leave()
	return r.joined(weakest)
}

// joined reads operators of at least that weight, with their kids; one of the same weight goes to whoever called, so that they are taken from the left.
func (r *reader) joined(least int) api.Expr {
	x := r.headed()
	for {
		o, there := r.bySign[r.here().Text]
		if !there || o.weight < least {
			return x
		}
		r.at++
		x = api.Expr{Kind: o.kind, Kids: []api.Expr{x, r.joined(o.weight + 1)}}
	}
}

// headed reads a piece, and the signs and types that stand ahead of it.
func (r *reader) headed() api.Expr {
	if kind := aheadKind(r.here().Text); kind != 0 {
		r.at++
		return api.Expr{Kind: kind, Kids: []api.Expr{r.behindHead()}}
	}
	if r.isCast() {
		r.wants("(")
		t := r.typed()
		r.wants(")")
		return api.Expr{Kind: api.CCast, Type: t, Kids: []api.Expr{r.behindHead()}}
	}
	return r.piece()
}

func (r *reader) behindHead() api.Expr {
	r.enter()
	defer r.leave()
	return r.headed()
}

// isCast may look at the token behind this one, since this one is not the last.
func (r *reader) isCast() bool {
	if !r.is("(") {
		return false
	}
	_, ok := types.Named(r.tokens[r.at+1].Text)
	return ok
}

func (r *reader) piece() api.Expr {
	if here := r.here(); here.Kind == api.TokNumber {
		r.at++
		return api.Expr{Kind: api.CNum, N: here.N, Type: here.Type}
	}
	if r.is("(") {
		return r.asked()
	}
	name := r.name()
	switch {
	case r.takes("["):
		place := r.expression()
		r.wants("]")
		return api.Expr{Kind: api.CAt, Name: name, Kids: []api.Expr{place}}
	case r.takes("("):
		return api.Expr{Kind: api.CCall, Name: name, Kids: r.expressions(")", api.MaxParams)}
	}
	return api.Expr{Kind: api.CVar, Name: name}
}

// expressions reads a list of at most so many, and the sign that closes it.
func (r *reader) expressions(closing string, most int) []api.Expr {
	var out []api.Expr
	r.listed(closing, func() {
		if len(out) == most && r.beginsExpression() {
			throw(api.ErrMany, r.here().At)
		}
		out = append(out, r.expression())
	})
	return out
}

// beginsExpression tells one too many from what is no expression at all.
func (r *reader) beginsExpression() bool {
	here := r.here()
	switch here.Kind {
	case api.TokNumber:
		return true
	case api.TokName:
		return Named(here.Text)
	}
	return here.Text == "(" || aheadKind(here.Text) != 0
}
