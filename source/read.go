package source

import (
	"pairlegal/api"
	"pairlegal/types"
)

// Read answers the program that a text is; a fault's At is a byte of it.
func Read(text string) (out api.Program, f api.Fault) {
	tokens, f := Tokens(text)
	if f.Err != api.OK {
		return api.Program{}, f
	}
	defer func() {
		if thrown := recover(); thrown != nil {
			out, f = api.Program{}, faultOf(thrown)
		}
	}()
	r := newReader(tokens, len(text))
	out = r.program()
	if Wrong(out) != api.OK {
		return api.Program{}, api.Fault{Err: api.ErrMuch}
	}
	return out, api.Fault{}
}

// throw leaves whatever is being read, however deep it is nested.
func throw(err api.Errno, at int) { panic(api.Fault{Err: err, At: at}) }

// faultOf lets on what throw has not thrown: that would be a mistake of the program, and no fault of the text.
func faultOf(thrown any) api.Fault {
	fault, ok := thrown.(api.Fault)
	if !ok {
		panic(thrown)
	}
	return fault
}

// cursor goes over tokens; behind the last one stands one of no kind and without a text, at the text's end.
type cursor struct {
	tokens []api.Token
	at     int
}

func (c *cursor) here() api.Token { return c.tokens[c.at] }

// is compares texts alone: no two tokens of different kinds have the same, and that at the end has none.
func (c *cursor) is(text string) bool { return c.here().Text == text }

func (c *cursor) ended() bool { return c.at == len(c.tokens)-1 }

// takes tells whether a word or a sign stands here, and goes on behind it, if so.
func (c *cursor) takes(text string) bool {
	if !c.is(text) {
		return false
	}
	c.at++
	return true
}

func (c *cursor) wants(text string) {
	if !c.takes(text) {
		c.refuse()
	}
}

// refuse throws because of the token that stands here, or is missing.
func (c *cursor) refuse() { throw(api.ErrForm, c.here().At) }

func (c *cursor) isType() bool {
	_, ok := types.Named(c.here().Text)
	return ok
}

func (c *cursor) typed() api.Type {
	t, ok := types.Named(c.here().Text)
	if !ok {
		c.refuse()
	}
	c.at++
	return t
}

func (c *cursor) name() string {
	here := c.here()
	if here.Kind != api.TokName {
		c.refuse()
	}
	if !Named(here.Text) {
		throw(api.ErrName, here.At)
	}
	c.at++
	return here.Text
}

// size reads how many numbers an array has.
func (c *cursor) size() int {
	here := c.here()
	if here.Kind != api.TokNumber {
		c.refuse()
	}
	if here.N < 1 || here.N > api.MaxGlobals {
		throw(api.ErrRange, here.At)
	}
	c.at++
	return int(here.N)
}

// listed reads what stands with commas between, or nothing, and the sign that closes it.
func (c *cursor) listed(closing string, one func()) {
	if c.takes(closing) {
		return
	}
	one()
	for !c.takes(closing) {
		c.wants(",")
		one()
	}
}

// reader is a cursor that knows what stands at it, and how many levels are open there.
type reader struct {
	cursor
	bySign map[string]operator
	open   int
}

func newReader(tokens []api.Token, end int) *reader {
	return &reader{
		cursor: cursor{tokens: append(tokens, api.Token{At: end})},
		bySign: operatorsBySign(),
	}
}

// enter opens a level; each one that does so leaves it by a deferred call.
func (r *reader) enter() {
	r.open++
	if r.open > api.MaxDeep {
		throw(api.ErrMuch, r.here().At)
	}
}

func (r *reader) leave() { r.open-- }

func (r *reader) program() api.Program {
	var p api.Program
	for !r.ended() {
		first := r.here()
		var t api.Type
		void := r.takes("void")
		if !void {
			t = r.typed()
		}
		name := r.name()
		switch {
		case r.is("("):
			if len(p.Funcs) == api.MaxFuncs {
				throw(api.ErrMany, first.At)
			}
			p.Funcs = append(p.Funcs, r.function(t, name))
		case void:
			r.refuse()
		default:
			p.Globals = append(p.Globals, r.global(t, name))
		}
	}
	return p
}

// global reads what stands behind a variable's name.
func (r *reader) global(t api.Type, name string) api.Global {
	g := api.Global{Type: t, Name: name}
	if r.takes("[") {
		g.Size = r.size()
		r.wants("]")
		if r.takes("=") {
			r.wants("{")
			g.Init = r.expressions("}", g.Size)
		}
	} else if r.takes("=") {
		g.Init = []api.Expr{r.expression()}
	}
	r.wants(";")
	return g
}

// function reads what stands behind a function's name.
func (r *reader) function(result api.Type, name string) api.Func {
	f := api.Func{Name: name, Result: result}
	r.wants("(")
	r.listed(")", func() {
		// What is no type is no parameter, and so not one too many.
		if len(f.Params) == api.MaxParams && r.isType() {
			throw(api.ErrMany, r.here().At)
		}
		t := r.typed()
		f.Params = append(f.Params, api.Param{Type: t, Name: r.name()})
	})
	r.wants("{")
	f.Body = r.statements()
	return f
}
