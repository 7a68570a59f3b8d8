package eval

import "pairlegal/api"

// variable is what a name stands for: its type, and where its numbers lie in a run (one, or as many as an array has).
type variable struct {
	typ     api.Type
	numbers func(m *machine) []uint64
}

// function is what is known of one; do is there when all of them are turned, since they may call each other.
type function struct {
	params []api.Param
	result api.Type
	do     func(m *machine, numbers []uint64) (uint64, bool)
}

// names has what is known in all of a program.
type names struct {
	variables map[string]variable
	functions map[string]*function
}

// newNames knows the two functions that no program writes.
func newNames() names {
	return names{
		variables: map[string]variable{},
		functions: map[string]*function{
			"put": {params: []api.Param{{Type: i16()}}, do: (*machine).put},
			"get": {result: i16(), do: (*machine).get},
		},
	}
}

// turned turns a program, with which nothing is wrong, into functions.
func turned(p api.Program) names {
	n := newNames()
	for i, g := range p.Globals {
		n.variables[g.Name] = variable{g.Type, func(m *machine) []uint64 { return m.globals[i] }}
	}
	for _, f := range p.Funcs {
		n.functions[f.Name] = &function{params: f.Params, result: f.Result}
	}
	for _, f := range p.Funcs {
		n.functions[f.Name].do = n.body(f)
	}
	return n
}

// body turns a function's statements into what a call of it does.
func (n names) body(f api.Func) func(m *machine, numbers []uint64) (uint64, bool) {
	s := &scope{names: n, locals: map[string]variable{}, result: f.Result}
	for _, p := range f.Params {
		s.declare(p.Type, p.Name)
	}
	body := s.block(f.Body)
	locals := s.size
	return func(m *machine, numbers []uint64) (uint64, bool) {
		return m.call(body, locals, numbers)
	}
}

// scope is the names of all, and on top of them those of one function, up to the place that is turned.
type scope struct {
	names
	locals map[string]variable
	open   []string // the locals that are seen, in the order of their declarations
	size   int      // how many locals there are in all of the function so far
	result api.Type
}

// declare gives each name a place of its own among the locals, since none is declared twice.
func (s *scope) declare(t api.Type, name string) variable {
	at := s.size
	s.size++
	v := variable{t, func(m *machine) []uint64 { return m.locals[at : at+1] }}
	s.locals[name] = v
	s.open = append(s.open, name)
	return v
}

// hide ends a block ahead of which that many locals were seen.
func (s *scope) hide(ahead int) {
	for _, name := range s.open[ahead:] {
		delete(s.locals, name)
	}
	s.open = s.open[:ahead]
}

// variable answers what a name stands for here: a local hides a variable of all.
func (s *scope) variable(name string) variable {
	if v, ok := s.locals[name]; ok {
		return v
	}
	return s.variables[name]
}

func i16() api.Type { return api.Type{Bits: 16, Signed: true} }

func u16() api.Type { return api.Type{Bits: 16} }
