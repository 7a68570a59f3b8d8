package check

import (
	"pairlegal/api"
	"pairlegal/types"
)

// variable is what a name stands for: a number of a type, or an array of such numbers.
type variable struct {
	typ     api.Type
	isArray bool
}

// names has what is known in all of a program; of functions it is what they take and tell that is asked for.
type names struct {
	variables map[string]variable
	functions map[string]api.Func
	words     int
}

// newNames knows the two functions that no program writes.
func newNames() names {
	return names{
		variables: map[string]variable{},
		functions: map[string]api.Func{
			"put": {Params: []api.Param{{Type: i16()}}},
			"get": {Result: i16()},
		},
	}
}

func (n *names) taken(name string) bool {
	_, isVariable := n.variables[name]
	_, isFunction := n.functions[name]
	return isVariable || isFunction
}

func (n *names) addVariable(g api.Global) api.Errno {
	if n.taken(g.Name) {
		return api.ErrName
	}
	n.variables[g.Name] = variable{typ: g.Type, isArray: g.Size > 0}
	n.words += max(1, g.Size) * types.Words(g.Type)
	if n.words > api.MaxGlobals {
		return api.ErrMuch
	}
	for _, x := range g.Init {
		if _, err := worked(x); err != api.OK {
			return err
		}
	}
	return api.OK
}

func (n *names) addFunction(f api.Func) api.Errno {
	if n.taken(f.Name) {
		return api.ErrName
	}
	n.functions[f.Name] = f
	return api.OK
}

func (n *names) hasMain() bool {
	f, ok := n.functions["main"]
	return ok && len(f.Params) == 0
}

// local is a name of a function; behind its block it is nothing any more, but its name stays taken.
type local struct {
	typ  api.Type
	seen bool
}

// scope is the names of all, and on top of them those of one function, up to the place that is looked at.
type scope struct {
	names
	locals map[string]local
	open   []string // the locals that are seen, in the order of their declarations
	frame  int      // words of all locals
	loops  int      // in whose bodies the place lies
	result api.Type
}

func newScope(n names, result api.Type) *scope {
	return &scope{names: n, locals: map[string]local{}, result: result}
}

func (s *scope) declare(t api.Type, name string) api.Errno {
	if _, taken := s.locals[name]; taken {
		return api.ErrName
	}
	s.locals[name] = local{typ: t, seen: true}
	s.open = append(s.open, name)
	s.frame += types.Words(t)
	return api.OK
}

// hide ends a block ahead of which that many locals were seen.
func (s *scope) hide(ahead int) {
	for _, name := range s.open[ahead:] {
		s.locals[name] = local{}
	}
	s.open = s.open[:ahead]
}

// variable answers what a name stands for here: a local hides a variable of all.
func (s *scope) variable(name string) (variable, api.Errno) {
	if l := s.locals[name]; l.seen {
		return variable{typ: l.typ}, api.OK
	}
	v, ok := s.variables[name]
	if !ok {
		return variable{}, api.ErrName
	}
	return v, api.OK
}

func i16() api.Type { return api.Type{Bits: 16, Signed: true} }
