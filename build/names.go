package build

import (
	"strconv"

	"pairlegal/api"
	"pairlegal/types"
)

// variable is what a name stands for. One of all has a place in memory; a local one lies in the stack, where its lowest word was on top when that had so many words.
type variable struct {
	name  string
	typ   api.Type
	size  int // of an array
	local bool
	at    int
}

// callee is what is to be known of a function where it is called.
type callee struct {
	label  string
	params []api.Param
	result api.Type
}

// names has what is known in all of a program.
type names struct {
	globals   map[string]variable
	functions map[string]callee
	memory    int // how many words the variables of all take
}

// namesOf lays the variables of all one behind the other, from the first word of memory on. Functions have labels of their own, for their names may have letters that a label has not.
func namesOf(p api.Program) names {
	n := names{globals: map[string]variable{}, functions: map[string]callee{"get": {result: i16()}, "put": {}}}
	for _, g := range p.Globals {
		n.globals[g.Name] = variable{name: g.Name, typ: g.Type, size: g.Size, at: n.memory}
		n.memory += max(1, g.Size) * types.Words(g.Type)
	}
	for i, f := range p.Funcs {
		n.functions[f.Name] = callee{label: "f" + strconv.Itoa(i), params: f.Params, result: f.Result}
	}
	return n
}

// loop is where SBreak and SContinue lead, and how many words the stack has there.
type loop struct {
	out, next string
	depth     int
}

// function is a writer of one function: it knows the names of all, and its own up to the place that is written.
type function struct {
	names
	writer
	locals []variable
	loop   loop
	result api.Type
}

// declare gives a name to what has just been laid onto the stack.
func (f *function) declare(t api.Type, name string) {
	f.locals = append(f.locals, variable{name: name, typ: t, local: true, at: f.depth})
}

// variable answers what a name stands for here: a local one hides one of all.
func (f *function) variable(name string) variable {
	for _, v := range f.locals {
		if v.name == name {
			return v
		}
	}
	return f.globals[name]
}

// mark is what a block must leave as it was.
type mark struct{ depth, locals int }

func (f *function) here() mark { return mark{depth: f.depth, locals: len(f.locals)} }

// close ends a block: what was declared in it is taken off the stack, and not seen any more.
func (f *function) close(m mark) {
	f.drop(f.depth - m.depth)
	f.locals = f.locals[:m.locals]
}
